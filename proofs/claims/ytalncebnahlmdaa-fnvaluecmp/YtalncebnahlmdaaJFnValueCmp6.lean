/- My own texts, joined: Dm8 Ca. -/
import Derived.Test.YtalncebnahlmdaaJFnValueCmp5
import Derived.Lib.Bytealg
/- Plain mathematics: how the order of decimals goes with sums and differences. No program in it. -/
namespace Go.Proofs.Ytalncebnahlmdaa.Dm
theorem sgn_bd (v : Int) : -1 ≤ sgn v ∧ sgn v ≤ 1 := by
  rcases Int.lt_trichotomy v 0 with h | h | h
  · rw [sgn_neg h]; omega
  · subst h; rw [sgn_zero]; omega
  · rw [sgn_pos h]; omega
theorem cmp_bd (m x n y : Int) : -1 ≤ cmp m x n y ∧ cmp m x n y ≤ 1 := by
  unfold cmp
  split
  · exact sgn_bd _
  · omega
theorem big_val {m x : Int} (h : ok m x = true) : big m x = val m x * p10 32 := by
  have b := ok_bd h
  rw [big, val, Int.mul_assoc, ← p10_add (by omega) (by omega)]; congr 2; omega
theorem cmp_big {m x n y : Int} (hm : ok m x = true) (hn : ok n y = true) : cmp m x n y = sgn (big m x - big n y) := by
  rw [cmp, if_pos ⟨hm, hn⟩, big_val hm, big_val hn, ← Int.sub_mul, sgn_mul (p10_pos _)]
theorem big_sgn (m x : Int) : sgn (big m x) = sgn m := by rw [big, sgn_mul (p10_pos _)]
theorem sgn_iff (v : Int) : (sgn v < 0 ↔ v < 0) ∧ (0 < sgn v ↔ 0 < v) ∧ (sgn v = 0 ↔ v = 0) := by
  rcases Int.lt_trichotomy v 0 with h | h | h
  · rw [sgn_neg h]; omega
  · subst h; rw [sgn_zero]; omega
  · rw [sgn_pos h]; omega
theorem cmp_zero {m x n y : Int} (hm : ok m x = true) (hn : ok n y = true) : cmp m x n y = 0 ↔ (m = n ∧ x = y) := by
  rw [cmp_big hm hn, (sgn_iff _).2.2]
  constructor
  · intro h; exact ok_unique hm hn (by omega)
  · rintro ⟨rfl, rfl⟩; omega
theorem big_neg (n y : Int) : big (-n) y = -big n y := by rw [big, big, Int.neg_mul]
theorem sub_val {m x n y : Int} (h : (sub m x n y).2.2 = true) : ok m x = true ∧ ok n y = true ∧ ok (sub m x n y).1 (sub m x n y).2.1 = true ∧ big (sub m x n y).1 (sub m x n y).2.1 = big m x - big n y := by
  have o := sub_ok h
  rw [← sub_add] at h ⊢
  obtain ⟨_, _, a3, a4⟩ := add_val h
  exact ⟨o.1, o.2, a3, by rw [a4, big_neg]; omega⟩
theorem sub_sgn {m x n y : Int} (h : (sub m x n y).2.2 = true) : ((sub m x n y).1 < 0 ↔ cmp m x n y < 0) ∧ (0 < (sub m x n y).1 ↔ 0 < cmp m x n y) := by
  obtain ⟨h1, h2, _, h4⟩ := sub_val h
  have e : sgn (sub m x n y).1 = cmp m x n y := by rw [cmp_big h1 h2, ← h4, big_sgn]
  have := sgn_iff (sub m x n y).1
  rw [← e]
  exact ⟨this.1.symm, this.2.1.symm⟩
theorem cmp_trans {m x n y c z : Int} (hm : ok m x = true) (hn : ok n y = true) (hc : ok c z = true) (h1 : cmp m x n y ≤ 0) (h2 : cmp n y c z ≤ 0) : cmp m x c z ≤ 0 := by
  rw [cmp_big hm hn] at h1
  rw [cmp_big hn hc] at h2
  rw [cmp_big hm hc]
  have s1 := sgn_iff (big m x - big n y)
  have s2 := sgn_iff (big n y - big c z)
  have s3 := sgn_iff (big m x - big c z)
  omega
theorem cmp_add {m x n y c z : Int} (h1 : (add m x c z).2.2 = true) (h2 : (add n y c z).2.2 = true) :
    cmp (add m x c z).1 (add m x c z).2.1 (add n y c z).1 (add n y c z).2.1 = cmp m x n y := by
  obtain ⟨a1, a2, a3, a4⟩ := add_val h1
  obtain ⟨b1, b2, b3, b4⟩ := add_val h2
  rw [cmp_big a3 b3, cmp_big a1 b1, a4, b4]
  congr 1; omega
end Go.Proofs.Ytalncebnahlmdaa.Dm
/- How two values stand to each other: the mathematics. -/
namespace Go.Proofs.Ytalncebnahlmdaa
open Go.RowKit
/-- how two texts stand to each other -/
def tord (a b : ByteArray) : Int := Lib.compareBytes a.data.toList b.data.toList
theorem cb_cases : ∀ (a b : List UInt8), (Lib.compareBytes a b = -1 ∧ Op.bytesLess a b = true ∧ Op.bytesLess b a = false ∧ a ≠ b) ∨ (Lib.compareBytes a b = 1 ∧ Op.bytesLess a b = false ∧ Op.bytesLess b a = true ∧ a ≠ b) ∨ (Lib.compareBytes a b = 0 ∧ Op.bytesLess a b = false ∧ Op.bytesLess b a = false ∧ a = b) := by
  intro a
  induction a with
  | nil => intro b; cases b with
    | nil => exact .inr (.inr ⟨rfl, rfl, rfl, rfl⟩)
    | cons y b => exact .inl ⟨rfl, rfl, rfl, fun e => by cases e⟩
  | cons x a ih =>
    intro b
    cases b with
    | nil => exact .inr (.inl ⟨rfl, rfl, rfl, fun e => by cases e⟩)
    | cons y b =>
      have e1 : Lib.compareBytes (x :: a) (y :: b) = if x < y then -1 else if y < x then 1 else Lib.compareBytes a b := rfl
      have e2 : Op.bytesLess (x :: a) (y :: b) = (decide (x < y) || (x == y && Op.bytesLess a b)) := rfl
      have e3 : Op.bytesLess (y :: b) (x :: a) = (decide (y < x) || (y == x && Op.bytesLess b a)) := rfl
      rw [e1, e2, e3]
      by_cases h1 : x < y
      · have h2 : ¬ y < x := by rw [UInt8.lt_iff_toNat_lt] at h1 ⊢; omega
        have h3 : ¬ x = y := fun e => by subst e; rw [UInt8.lt_iff_toNat_lt] at h1; omega
        have h4 : ¬ y = x := fun e => h3 e.symm
        exact .inl ⟨by simp [h1], by simp [h1], by simp [h2, h4], fun e => h3 (by cases e; rfl)⟩
      · by_cases h2 : y < x
        · have h3 : ¬ x = y := fun e => by subst e; exact h1 h2
          have h4 : ¬ y = x := fun e => h3 e.symm
          exact .inr (.inl ⟨by simp [h1, h2], by simp [h1, h3], by simp [h2], fun e => h3 (by cases e; rfl)⟩)
        · have h3 : x = y := by
            apply UInt8.toNat_inj.1
            rw [UInt8.lt_iff_toNat_lt] at h1 h2
            omega
          subst h3
          rcases ih b with ⟨p1, p2, p3, p4⟩ | ⟨p1, p2, p3, p4⟩ | ⟨p1, p2, p3, p4⟩
          · exact .inl ⟨by simp [p1, h1], by simp [p2], by simp [p3, h1], fun e => p4 (by cases e; rfl)⟩
          · exact .inr (.inl ⟨by simp [p1, h1], by simp [p2, h1], by simp [p3], fun e => p4 (by cases e; rfl)⟩)
          · exact .inr (.inr ⟨by simp [p1, h1], by simp [p2, h1], by simp [p3, h1], by rw [p4]⟩)
theorem tord_cases (a b : ByteArray) : (tord a b = -1 ∧ Op.bytesLess a.toList b.toList = true ∧ Op.bytesLess b.toList a.toList = false ∧ a ≠ b) ∨ (tord a b = 1 ∧ Op.bytesLess a.toList b.toList = false ∧ Op.bytesLess b.toList a.toList = true ∧ a ≠ b) ∨ (tord a b = 0 ∧ Op.bytesLess a.toList b.toList = false ∧ Op.bytesLess b.toList a.toList = false ∧ a = b) := by
  unfold tord
  rw [ByteArray.toList_eq, ByteArray.toList_eq]
  rcases cb_cases a.data.toList b.data.toList with ⟨p1, p2, p3, p4⟩ | ⟨p1, p2, p3, p4⟩ | ⟨p1, p2, p3, p4⟩
  · exact .inl ⟨p1, p2, p3, fun e => p4 (by rw [e])⟩
  · exact .inr (.inl ⟨p1, p2, p3, fun e => p4 (by rw [e])⟩)
  · exact .inr (.inr ⟨p1, p2, p3, ByteArray.ext (Array.toList_inj.1 p4)⟩)
theorem tord_zero {a b : ByteArray} : tord a b = 0 ↔ a = b := by
  rcases tord_cases a b with ⟨p1, _, _, p4⟩ | ⟨p1, _, _, p4⟩ | ⟨p1, _, _, p4⟩
  · rw [p1]; exact ⟨fun h => by omega, fun h => absurd h p4⟩
  · rw [p1]; exact ⟨fun h => by omega, fun h => absurd h p4⟩
  · exact ⟨fun _ => p4, fun _ => p1⟩
/-- the heads of two values -/
def hord (h g : Hd) : Int := if h.k = g.k then (if h.m = g.m ∧ h.e = g.e then tord h.t g.t else Dm.cmp h.m h.e g.m g.e) else Dm.sgn (h.k - g.k)
def nmAt (ns : List ByteArray) (i : Nat) : ByteArray := ns.getD i ⟨#[]⟩
theorem nmAt_some {ns : List ByteArray} {i : Nat} (h : i < ns.length) : ns[i]? = some (nmAt ns i) := by
  unfold nmAt
  rw [List.getElem?_eq_getElem h, List.getD_eq_getElem?_getD, List.getElem?_eq_getElem h]; rfl
/-- one place of two lists -/
def pord (f : Hd → Vo → Hd → Vo → Int) (ob : Bool) (ns ms : List ByteArray) (F G : Vo) (i : Nat) : Int :=
  if ob = true ∧ nmAt ns i ≠ nmAt ms i then tord (nmAt ns i) (nmAt ms i) else f (F.hdAt i) (F.kidsAt i) (G.hdAt i) (G.kidsAt i)
/-- so many places, from this one on -/
def ford (f : Hd → Vo → Hd → Vo → Int) (ob : Bool) (ns ms : List ByteArray) (F G : Vo) : Nat → Nat → Int
  | 0, _ => Dm.sgn ((F.len : Int) - (G.len : Int))
  | n + 1, i => if pord f ob ns ms F G i = 0 then ford f ob ns ms F G n (i + 1) else pord f ob ns ms F G i
/-- two values -/
def vord : Nat → Hd → Vo → Hd → Vo → Int
  | 0, _, _, _, _ => 0
  | N + 1, h, F, g, G => if hord h g = 0 then ford (vord N) (h.k == 6) h.ns g.ns F G (min F.len G.len) 0 else hord h g
theorem hord_same {h h' g g' : Hd} (x : h.same h') (y : g.same g') : hord h g = hord h' g' := by
  obtain ⟨⟨a, b, c, d⟩, _⟩ := x
  obtain ⟨⟨a', b', c', d'⟩, _⟩ := y
  unfold hord
  rw [a, b, c, d, a', b', c', d']
theorem alike_at : ∀ {F G : Vo} (i : Nat), F.alike G → (F.hdAt i).same (G.hdAt i) ∧ (F.kidsAt i).alike (G.kidsAt i) := by
  intro F
  induction F with
  | nil => intro G i h; cases G with
    | nil => exact ⟨Hd.same_refl _, trivial⟩
    | cons => exact h.elim
  | cons h a c kids next _ ih =>
    intro G i x
    cases G with
    | nil => exact x.elim
    | cons h' a' c' kids' next' =>
      cases i with
      | zero => exact ⟨x.1, x.2.1⟩
      | succ i => exact ih i x.2.2
theorem vord_alike : ∀ (N : Nat) {h h' g g' : Hd} {F F' G G' : Vo}, h.same h' → F.alike F' → g.same g' → G.alike G' → vord N h F g G = vord N h' F' g' G' := by
  intro N
  induction N with
  | zero => intros; rfl
  | succ N ih =>
    intro h h' g g' F F' G G' x1 x2 y1 y2
    have e : ∀ n i, ford (vord N) (h.k == 6) h.ns g.ns F G n i = ford (vord N) (h'.k == 6) h'.ns g'.ns F' G' n i := by
      intro n
      induction n with
      | zero => intro i; show Dm.sgn _ = Dm.sgn _; rw [Vo.alike_len x2, Vo.alike_len y2]
      | succ n ih2 =>
        intro i
        have e1 : pord (vord N) (h.k == 6) h.ns g.ns F G i = pord (vord N) (h'.k == 6) h'.ns g'.ns F' G' i := by
          unfold pord
          rw [x1.1.1, x1.2, y1.2, ih (alike_at i x2).1 (alike_at i x2).2 (alike_at i y2).1 (alike_at i y2).2]
        show (if _ then _ else _) = (if _ then _ else _)
        rw [e1, ih2]
    show (if _ then _ else _) = (if _ then _ else _)
    rw [hord_same x1 y1, e, Vo.alike_len x2, Vo.alike_len y2]
theorem one_dec {h : Hd} {n : Nat} (x : one h n) : Dm.ok h.m h.e = true := by
  rcases x with ⟨_, ⟨⟨h1, h2, _⟩, _⟩, _⟩ | ⟨_, h1, _⟩ | ⟨_, _, ⟨h1, h2, _⟩, _⟩ | ⟨_, ⟨h1, h2, _⟩, _⟩ | ⟨_, _, h1, h2, _⟩
  · rw [h1, h2]; rfl
  · exact h1
  · rw [h1, h2]; rfl
  · rw [h1, h2]; rfl
  · rw [h1, h2]; rfl
theorem one_names {h : Hd} {n : Nat} (x : one h n) (hk : h.k = 6) : h.ns.length = n := by
  rcases x with ⟨h1, _⟩ | ⟨h1, _⟩ | ⟨h1, _⟩ | ⟨h1, _⟩ | ⟨_, ⟨h1, _⟩, _⟩
  · omega
  · omega
  · omega
  · omega
  · exact h1
theorem one_kind {h : Hd} {n : Nat} (x : one h n) : 0 ≤ h.k ∧ h.k ≤ 6 := by
  rcases x with ⟨h1, _⟩ | ⟨h1, _⟩ | ⟨h1, _⟩ | ⟨h1, _⟩ | ⟨h1, _⟩ <;> omega
theorem allOne_at : ∀ {F : Vo} {i : Nat}, i < F.len → F.allOne → one (F.hdAt i) (F.kidsAt i).len ∧ (F.kidsAt i).allOne := by
  intro F
  induction F with
  | nil => intro i h; exact absurd h (Nat.not_lt_zero _)
  | cons h a c kids next _ ih =>
    rintro i hi ⟨h1, h2, h3⟩
    cases i with
    | zero => exact ⟨h1, h2⟩
    | succ i => exact ih (show i < next.len from Nat.lt_of_succ_lt_succ hi) h3
theorem hord_dec {h g : Hd} (hk : h.k = g.k) (hm : Dm.ok h.m h.e = true) (hn : Dm.ok g.m g.e = true) : hord h g = if Dm.cmp h.m h.e g.m g.e = 0 then tord h.t g.t else Dm.cmp h.m h.e g.m g.e := by
  unfold hord
  rw [if_pos hk]
  by_cases e : h.m = g.m ∧ h.e = g.e
  · rw [if_pos e, if_pos ((Dm.cmp_zero hm hn).2 e)]
  · rw [if_neg e, if_neg (fun x => e ((Dm.cmp_zero hm hn).1 x))]
end Go.Proofs.Ytalncebnahlmdaa
