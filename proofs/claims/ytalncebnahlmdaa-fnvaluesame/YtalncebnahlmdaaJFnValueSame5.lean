/- My own texts, joined: Sc Se Xa Xb Kr Sd Sg Sh Wa. -/
import Derived.Test.YtalncebnahlmdaaJFnValueSame4
import Derived.Carry
import Derived.Laws.OwnMore
import Derived.Deep.RegionHeld3
/- Two trees that are the same: what the program's loop keeps, as plain mathematics. -/
namespace Go.Proofs.Ytalncebnahlmdaa
/-- a tree as it stands in a list: its head, where its list lies, that list -/
structure It where
  k : Int
  t : ByteArray
  m : Int
  e : Int
  a : Option Addr
  F : Fo
  c : Nat
def It.cells (x : It) : List Value := [.int .i64 x.k, .string x.t, .int .i64 x.m, .int .i64 x.e, .slice x.a x.F.len x.c]
def Fo.itAt (F : Fo) (i : Nat) : It := ⟨F.kindAt i, F.textAt i, F.manAt i, F.expAt i, F.addrAt i, F.kidsAt i, F.capAt i⟩
abbrev It2 := It × It
def hsame (p : It2) : Bool := headSame p.1.k p.1.t p.1.m p.1.e p.1.F.len p.2.k p.2.t p.2.m p.2.e p.2.F.len
/-- two trees are the same but for where they lie -/
def same2 (p : It2) : Prop := (p.1.k = p.2.k ∧ p.1.t = p.2.t ∧ p.1.m = p.2.m ∧ p.1.e = p.2.e) ∧ p.1.F.alike p.2.F
theorem bytes_ext {a b : ByteArray} (h : a.toList = b.toList) : a = b := by
  rw [ByteArray.toList_eq, ByteArray.toList_eq] at h
  cases a; cases b; simpa using h
theorem hsame_iff (p : It2) : hsame p = true ↔ (p.1.k = p.2.k ∧ p.1.t = p.2.t ∧ p.1.m = p.2.m ∧ p.1.e = p.2.e) ∧ p.1.F.len = p.2.F.len := by
  unfold hsame headSame
  simp only [Bool.and_eq_true, decide_eq_true_eq]
  constructor
  · rintro ⟨h1, h2, ⟨h3, h4⟩, h5⟩; exact ⟨⟨h1, bytes_ext h2, h3, h4⟩, h5⟩
  · rintro ⟨⟨h1, h2, h3, h4⟩, h5⟩; exact ⟨h1, by rw [h2], ⟨h3, h4⟩, h5⟩
theorem same2_head {p : It2} (h : same2 p) : hsame p = true := (hsame_iff p).2 ⟨h.1, Fo.alike_len h.2⟩
theorem alike_kids : ∀ {G F : Fo}, F.alike G → ∀ i, i < F.len → same2 (F.itAt i, G.itAt i) := by
  intro G
  induction G with
  | nil => intro F h i hi; rw [Fo.alike_nil h] at hi; exact absurd hi (Nat.not_lt_zero _)
  | cons k t m e a c kids next _ ih =>
    intro F h i hi
    obtain ⟨a', c', kids', next', rfl, h1, h2⟩ := Fo.alike_cons h
    cases i with
    | zero => exact ⟨⟨rfl, rfl, rfl, rfl⟩, h1⟩
    | succ i => exact ih h2 i (Nat.lt_of_succ_lt_succ hi)
theorem alike_of_kids : ∀ {F G : Fo}, F.len = G.len → (∀ i, i < F.len → same2 (F.itAt i, G.itAt i)) → F.alike G := by
  intro F
  induction F with
  | nil => intro G h _; cases G with
    | nil => trivial
    | cons => exact absurd h.symm (Nat.succ_ne_zero _)
  | cons k t m e a c kids next _ ih =>
    intro G h hk
    cases G with
    | nil => exact absurd h (Nat.succ_ne_zero _)
    | cons k' t' m' e' a' c' kids' next' =>
      obtain ⟨h1, h2⟩ := hk 0 (Nat.succ_pos _)
      exact ⟨h1, h2, ih (Nat.succ.inj h) fun i hi => hk (i + 1) (Nat.succ_lt_succ hi)⟩
/-- what is closed is the same all through -/
theorem closed_same (X : It2 → Prop) (h : ∀ p, X p → hsame p = true ∧ ∀ i, i < p.1.F.len → X (p.1.F.itAt i, p.2.F.itAt i)) (N : Nat) : ∀ p, p.1.F.size < N → X p → same2 p := by
  induction N with
  | zero => intro p hp; omega
  | succ N ih =>
    intro p hp hX
    obtain ⟨h1, h2⟩ := h p hX
    obtain ⟨h3, h4⟩ := (hsame_iff p).1 h1
    exact ⟨h3, alike_of_kids h4 fun i hi => ih _ (by have := Fo.size_at hi; show (p.1.F.kidsAt i).size < N; omega) (h2 i hi)⟩
/-- where a tree's list lies -/
def It.pl (x : It) : Pl := plOf x.a x.F.len
theorem pl_inj {w : World} {x y : It} (hx : x.F.In w x.a) (hy : y.F.In w y.a) (h : x.pl = y.pl) : x.F = y.F := by
  unfold It.pl plOf at h
  by_cases h1 : x.F.len = 0
  · rw [if_pos h1] at h
    by_cases h2 : y.F.len = 0
    · have e1 : x.F = .nil := by cases hF : x.F with
        | nil => rfl
        | cons => rw [hF] at h1; exact absurd h1 (Nat.succ_ne_zero _)
      have e2 : y.F = .nil := by cases hF : y.F with
        | nil => rfl
        | cons => rw [hF] at h2; exact absurd h2 (Nat.succ_ne_zero _)
      rw [e1, e2]
    · rw [if_neg h2] at h
      exact absurd (congrArg Prod.snd h).symm h2
  · rw [if_neg h1] at h
    by_cases h2 : y.F.len = 0
    · rw [if_pos h2] at h
      exact absurd (congrArg Prod.snd h) h1
    · rw [if_neg h2] at h
      have ha : x.a = y.a := congrArg Prod.fst h
      have hl : x.F.len = y.F.len := congrArg Prod.snd h
      obtain ⟨b, o, e1, f1⟩ := Fo.from_of_len' hx (show 0 < x.F.len by omega)
      obtain ⟨b', o', e2, f2⟩ := Fo.from_of_len' hy (show 0 < y.F.len by omega)
      rw [ha, e2] at e1
      cases e1
      exact Fo.from_inj _ _ _ _ f1 f2 hl
/-- the pairs of two lists -/
def kidPairs (F G : Fo) : Nat → List It2
  | 0 => []
  | n + 1 => kidPairs F G n ++ [(F.itAt n, G.itAt n)]
theorem kidPairs_mem {F G : Fo} {n : Nat} {p : It2} : p ∈ kidPairs F G n ↔ ∃ i, i < n ∧ p = (F.itAt i, G.itAt i) := by
  induction n with
  | zero =>
    constructor
    · intro h; exact absurd h (List.not_mem_nil)
    · rintro ⟨i, h, _⟩; exact absurd h (Nat.not_lt_zero _)
  | succ n ih =>
    show p ∈ kidPairs F G n ++ [(F.itAt n, G.itAt n)] ↔ _
    rw [List.mem_append, ih, List.mem_singleton]
    constructor
    · rintro (⟨i, hi, h⟩ | h)
      · exact ⟨i, by omega, h⟩
      · exact ⟨n, by omega, h⟩
    · rintro ⟨i, hi, h⟩
      rcases Nat.lt_succ_iff_lt_or_eq.1 hi with hi | rfl
      · exact .inl ⟨i, hi, h⟩
      · exact .inr h
/-- how much is to be done -/
def wsum : List It2 → Nat
  | [] => 0
  | p :: t => p.1.F.size + 1 + wsum t
theorem wsum_append (A B : List It2) : wsum (A ++ B) = wsum A + wsum B := by
  induction A with
  | nil => show wsum B = 0 + wsum B; omega
  | cons p t ih => show p.1.F.size + 1 + wsum (t ++ B) = p.1.F.size + 1 + wsum t + wsum B; omega
def Fo.upTo (F : Fo) : Nat → Nat
  | 0 => 0
  | n + 1 => F.upTo n + ((F.kidsAt n).size + 1)
theorem wsum_kids (F G : Fo) (n : Nat) : wsum (kidPairs F G n) = F.upTo n := by
  induction n with
  | zero => rfl
  | succ n ih => show wsum (kidPairs F G n ++ [(F.itAt n, G.itAt n)]) = F.upTo n + ((F.kidsAt n).size + 1); rw [wsum_append, ih]; rfl
theorem upTo_next (k : Int) (t : ByteArray) (m e : Int) (a : Option Addr) (c : Nat) (kids next : Fo) (n : Nat) : (Fo.cons k t m e a c kids next).upTo (n + 1) = kids.size + 1 + next.upTo n := by
  induction n with
  | zero => show 0 + (kids.size + 1) = kids.size + 1 + 0; omega
  | succ n ih => show (Fo.cons k t m e a c kids next).upTo (n + 1) + ((next.kidsAt n).size + 1) = kids.size + 1 + (next.upTo n + ((next.kidsAt n).size + 1)); omega
theorem upTo_len (F : Fo) : F.upTo F.len = F.size := by
  induction F with
  | nil => rfl
  | cons k t m e a c kids next _ ih => show (Fo.cons k t m e a c kids next).upTo (next.len + 1) = kids.size + 1 + next.size; rw [upTo_next, ih]
/-- what the loop keeps: S is to be done, L was met, D is done -/
structure Loop (w : World) (top : It2) (T : Nat) (S : List It2) (L : List (Pl2 × Value)) (D : List It2) : Prop where
  fwd : same2 top → ∀ p ∈ S, same2 p
  heads : ∀ p ∈ D, hsame p = true
  closed : ∀ p ∈ D, ∀ i, i < p.1.F.len → (p.1.F.itAt i, p.2.F.itAt i) ∈ D ∨ (p.1.F.itAt i, p.2.F.itAt i) ∈ S
  has : top ∈ D ∨ top ∈ S
  keys : ∀ x v, getL x L = some v → ∃ p ∈ D, x = (p.1.pl, p.2.pl)
  vals : ∀ x v, getL x L = some v → ∃ n : Nat, v = .int .i64 n ∧ 1 ≤ n ∧ n ≤ D.length
  room : D.length + wsum S ≤ T
  lie : ∀ p, p ∈ D ∨ p ∈ S → p.1.F.In w p.1.a ∧ p.2.F.In w p.2.a
theorem Loop.start {w : World} {top : It2} (h : top.1.F.In w top.1.a ∧ top.2.F.In w top.2.a) : Loop w top (top.1.F.size + 1) [top] [] [] where
  fwd := fun h p hp => by rw [List.mem_singleton] at hp; subst hp; exact h
  heads := fun p hp => absurd hp List.not_mem_nil
  closed := fun p hp => absurd hp List.not_mem_nil
  has := .inr (List.mem_singleton.2 rfl)
  keys := fun x v h => by cases h
  vals := fun x v h => by cases h
  room := by show 0 + (top.1.F.size + 1 + 0) ≤ _; omega
  lie := fun p hp => by
    rcases hp with hp | hp
    · exact absurd hp List.not_mem_nil
    · rw [List.mem_singleton] at hp; subst hp; exact h
theorem Loop.done {w : World} {top : It2} {T : Nat} {L : List (Pl2 × Value)} {D : List It2} (h : Loop w top T [] L D) : same2 top := by
  have ht : top ∈ D := by rcases h.has with h | h; exact h; cases h
  refine closed_same (fun p => p ∈ D) (fun p hp => ⟨h.heads p hp, fun i hi => ?_⟩) (top.1.F.size + 1) top (Nat.lt_succ_self _) ht
  rcases h.closed p hp i hi with h | h
  · exact h
  · cases h
theorem Loop.fails {w : World} {top p : It2} {T : Nat} {S D : List It2} {L : List (Pl2 × Value)} (h : Loop w top T (S ++ [p]) L D) (hp : hsame p = false) : ¬ same2 top := fun ht => by
  have := same2_head (h.fwd ht p (by simp))
  rw [hp] at this; cases this
theorem In_kid {w : World} {F : Fo} {a : Option Addr} (h : F.In w a) {i : Nat} (hi : i < F.len) : (F.kidsAt i).In w (F.addrAt i) := by
  obtain ⟨b, o, _, hF⟩ := Fo.from_of_len' h hi
  exact (Fo.from_at hF hi).2.1
theorem mem_move {S D : List It2} {p q : It2} (h : q ∈ D ∨ q ∈ S ++ [p]) : q ∈ p :: D ∨ q ∈ S := by
  rcases h with h | h
  · exact .inl (List.mem_cons_of_mem _ h)
  · rcases List.mem_append.1 h with h | h
    · exact .inr h
    · rw [List.mem_singleton] at h; subst h; exact .inl List.mem_cons_self
/-- a pair whose lists were met -/
theorem Loop.old {w : World} {top p : It2} {T : Nat} {S D : List It2} {L : List (Pl2 × Value)} (h : Loop w top T (S ++ [p]) L D) (hp : hsame p = true) {n : Nat} (hk : getL (p.1.pl, p.2.pl) L = some (.int .i64 n)) :
    Loop w top T S (putL (p.1.pl, p.2.pl) (.int .i64 ((n + 1 : Nat) : Int)) L) (p :: D) where
  fwd := fun ht q hq => h.fwd ht q (List.mem_append_left _ hq)
  heads := fun q hq => by
    rcases List.mem_cons.1 hq with rfl | hq
    · exact hp
    · exact h.heads q hq
  closed := fun q hq i hi => by
    rcases List.mem_cons.1 hq with rfl | hq
    · obtain ⟨r, hr, e⟩ := h.keys _ _ hk
      have hl := h.lie q (.inr (by simp))
      have hlr := h.lie r (.inl hr)
      have e1 : q.1.F = r.1.F := pl_inj hl.1 hlr.1 (congrArg Prod.fst e)
      have e2 : q.2.F = r.2.F := pl_inj hl.2 hlr.2 (congrArg Prod.snd e)
      rw [e1, e2]
      rw [e1] at hi
      exact mem_move (h.closed r hr i hi)
    · exact mem_move (h.closed q hq i hi)
  has := mem_move h.has
  keys := fun x v hx => by
    rw [getL_put] at hx
    by_cases hxk : x = (p.1.pl, p.2.pl)
    · exact ⟨p, List.mem_cons_self, hxk⟩
    · rw [if_neg hxk] at hx
      obtain ⟨q, hq, e⟩ := h.keys x v hx
      exact ⟨q, List.mem_cons_of_mem _ hq, e⟩
  vals := fun x v hx => by
    rw [getL_put] at hx
    by_cases hxk : x = (p.1.pl, p.2.pl)
    · rw [if_pos hxk] at hx
      cases hx
      obtain ⟨n', e1, e2, e3⟩ := h.vals _ _ hk
      have : n = n' := by cases e1; rfl
      subst this
      exact ⟨n + 1, rfl, by omega, by show n + 1 ≤ D.length + 1; omega⟩
    · rw [if_neg hxk] at hx
      obtain ⟨n', e1, e2, e3⟩ := h.vals x v hx
      exact ⟨n', e1, e2, by show n' ≤ D.length + 1; omega⟩
  room := by
    have := h.room
    rw [wsum_append] at this
    have e : wsum [p] = p.1.F.size + 1 + 0 := rfl
    show D.length + 1 + wsum S ≤ T
    omega
  lie := fun q hq => h.lie q (by
    rcases hq with hq | hq
    · rcases List.mem_cons.1 hq with rfl | hq
      · exact .inr (by simp)
      · exact .inl hq
    · exact .inr (List.mem_append_left _ hq))
/-- a pair whose lists were not met -/
theorem Loop.new {w : World} {top p : It2} {T : Nat} {S D : List It2} {L : List (Pl2 × Value)} (h : Loop w top T (S ++ [p]) L D) (hp : hsame p = true) :
    Loop w top T (S ++ kidPairs p.1.F p.2.F p.1.F.len) (putL (p.1.pl, p.2.pl) (.int .i64 1) L) (p :: D) where
  fwd := fun ht q hq => by
    rcases List.mem_append.1 hq with hq | hq
    · exact h.fwd ht q (List.mem_append_left _ hq)
    · obtain ⟨i, hi, rfl⟩ := kidPairs_mem.1 hq
      exact alike_kids (h.fwd ht p (by simp)).2 i hi
  heads := fun q hq => by
    rcases List.mem_cons.1 hq with rfl | hq
    · exact hp
    · exact h.heads q hq
  closed := fun q hq i hi => by
    rcases List.mem_cons.1 hq with rfl | hq
    · exact .inr (List.mem_append_right _ (kidPairs_mem.2 ⟨i, hi, rfl⟩))
    · rcases mem_move (h.closed q hq i hi) with h | h
      · exact .inl h
      · exact .inr (List.mem_append_left _ h)
  has := by
    rcases mem_move h.has with h | h
    · exact .inl h
    · exact .inr (List.mem_append_left _ h)
  keys := fun x v hx => by
    rw [getL_put] at hx
    by_cases hxk : x = (p.1.pl, p.2.pl)
    · exact ⟨p, List.mem_cons_self, hxk⟩
    · rw [if_neg hxk] at hx
      obtain ⟨q, hq, e⟩ := h.keys x v hx
      exact ⟨q, List.mem_cons_of_mem _ hq, e⟩
  vals := fun x v hx => by
    rw [getL_put] at hx
    by_cases hxk : x = (p.1.pl, p.2.pl)
    · rw [if_pos hxk] at hx
      cases hx
      exact ⟨1, rfl, by omega, by show 1 ≤ D.length + 1; omega⟩
    · rw [if_neg hxk] at hx
      obtain ⟨n', e1, e2, e3⟩ := h.vals x v hx
      exact ⟨n', e1, e2, by show n' ≤ D.length + 1; omega⟩
  room := by
    have := h.room
    rw [wsum_append] at this ⊢
    rw [wsum_kids, upTo_len]
    have e : wsum [p] = p.1.F.size + 1 + 0 := rfl
    show D.length + 1 + (wsum S + p.1.F.size) ≤ T
    omega
  lie := fun q hq => by
    rcases hq with hq | hq
    · rcases List.mem_cons.1 hq with rfl | hq
      · exact h.lie q (.inr (by simp))
      · exact h.lie q (.inl hq)
    · rcases List.mem_append.1 hq with hq | hq
      · exact h.lie q (.inr (List.mem_append_left _ hq))
      · obtain ⟨i, hi, rfl⟩ := kidPairs_mem.1 hq
        have hl := h.lie p (.inr (by simp))
        have hlen := ((hsame_iff p).1 hp).2
        exact ⟨In_kid hl.1 hi, In_kid hl.2 (by omega)⟩
end Go.Proofs.Ytalncebnahlmdaa
/- TreeSame of the specification. -/
namespace Go.Proofs.Ytalncebnahlmdaa
open Go.RowKit
/-- a truth that says whether -/
def SaysT (p : Prop) (r : Ending) : Prop := ∃ q : Bool, r = .returned (.bool q) ∧ (q = true ↔ p)
end Go.Proofs.Ytalncebnahlmdaa
/- Values that are ok: names that ascend. -/
namespace Go.Proofs.Ytalncebnahlmdaa
open Go.RowKit
/-- the first j texts are names, each less than the next -/
def nmAsc (ss : List ByteArray) (j : Nat) : Prop := ∀ i s, i < j → ss[i]? = some s → Qm.name s = true ∧ ∀ p, 0 < i → ss[i - 1]? = some p → Op.bytesLess p.toList s.toList = true
theorem nmAsc_zero (ss : List ByteArray) : nmAsc ss 0 := fun _ _ hi => absurd hi (Nat.not_lt_zero _)
theorem nmAsc_first {ss : List ByteArray} {s : ByteArray} (hs : ss[0]? = some s) (hn : Qm.name s = true) : nmAsc ss 1 := fun i u hi hu => by
  have e : i = 0 := by omega
  subst e
  rw [hs] at hu
  cases hu
  exact ⟨hn, fun p h0 => absurd h0 (Nat.lt_irrefl _)⟩
theorem nmAsc_next {ss : List ByteArray} {j : Nat} {s p : ByteArray} (h : nmAsc ss (j + 1)) (hs : ss[j + 1]? = some s) (hp : ss[j]? = some p) (hn : Qm.name s = true) (hl : Op.bytesLess p.toList s.toList = true) : nmAsc ss (j + 2) := fun i u hi hu => by
  by_cases e : i = j + 1
  · subst e
    rw [hs] at hu
    cases hu
    refine ⟨hn, fun p' _ hp' => ?_⟩
    rw [show j + 1 - 1 = j by omega, hp] at hp'
    cases hp'
    exact hl
  · exact h i u (by omega) hu
theorem nmAsc_bad {ss : List ByteArray} {j N : Nat} {s : ByteArray} (hj : j < N) (hs : ss[j]? = some s) (hn : Qm.name s = false) : ¬ nmAsc ss N := fun h => by
  have := (h j s hj hs).1
  rw [hn] at this
  cases this
theorem nmAsc_down {ss : List ByteArray} {j N : Nat} {s p : ByteArray} (hj : j + 1 < N) (hs : ss[j + 1]? = some s) (hp : ss[j]? = some p) (hl : Op.bytesLess p.toList s.toList = false) : ¬ nmAsc ss N := fun h => by
  have := (h (j + 1) s hj hs).2 p (by omega) (by rw [show j + 1 - 1 = j by omega]; exact hp)
  rw [hl] at this
  cases this
set_option maxRecDepth 100000 in
set_option maxHeartbeats 1000000 in
theorem nmA {Q : Exit → Act → World → Prop} {t1 t2 t4 t5 t6 t7 t8 t9 t10 t11 t12 t13 t14 t15 t16 t17 t18 t19 t20 t21 t22 t23 t24 t25 t26 t27 t28 t29 t30 t31 : Value} {W : World} {b o n c : Nat} {s : ByteArray} {j : Nat}
    (hj : (j : Int) < (n : Int)) (h1 : W.cell? ⟨b, o + j, none⟩ = some (.string s)) (hs : s.size ≤ maxLen) (hr : Qm.name s = false)
    (hp : ∀ p d v a w, Q (.panic p) (Act.put a d v) w → Q (.panic p) a w) (h : ∀ ws v10 v11 v12 v13 v14 v15 v16 v17 v18 v19 v20 v21 v22 v23 v24 v25 v26 v27 v28 v29 v30, Below W.heap.size W ws → Q .normal { tmps := ((.slice (some ⟨b, o, none⟩) n c) :: t1 :: t2 :: (.int .i64 (j : Nat)) :: t4 :: t5 :: t6 :: t7 :: t8 :: t9 :: v10 :: v11 :: v12 :: v13 :: v14 :: v15 :: v16 :: v17 :: v18 :: v19 :: v20 :: v21 :: v22 :: v23 :: v24 :: v25 :: v26 :: v27 :: v28 :: v29 :: v30 :: .bool true :: []).toArray, defers := [] } ws) :
    Code.wp Try.prog (Code.region 4 #[{ dst := some 10, op := Op.move (Operand.tmp 0), type := 26, pos := "l7_value.go:29", after := #[], guard := none }, { dst := some 11, op := Op.move (Operand.tmp 3), type := 3, pos := "l7_value.go:29", after := #[], guard := none }, { dst := some 12, op := Op.indexAddr 26 (Operand.tmp 10) (Operand.tmp 11), type := 0, pos := "l7_value.go:29", after := #[{ on := 0, ground := Ground.data }, { on := 1, ground := Ground.data }], guard := none }, { dst := some 13, op := Op.load 9 (Operand.tmp 12), type := 9, pos := "l7_value.go:29", after := #[{ on := 2, ground := Ground.data }], guard := none }, { dst := some 14, op := Op.call { callee := Callee.value (Operand.func 97), args := #[Operand.tmp 13], argTypes := #[9] }, type := 4, pos := "l7_value.go:29", after := #[{ on := 3, ground := Ground.data }], guard := none }, { dst := some 15, op := Op.unOp UnOp.not 4 (Operand.tmp 14), type := 4, pos := "l7_value.go:29", after := #[{ on := 4, ground := Ground.data }], guard := none }, { dst := some 16, op := Op.move (Operand.tmp 15), type := 4, pos := "l7_value.go:29", after := #[{ on := 5, ground := Ground.data }, { on := 4, ground := Ground.chain }], guard := none }, { dst := some 17, op := Op.move (Operand.tmp 3), type := 3, pos := "l7_value.go:29", after := #[{ on := 6, ground := Ground.guard }], guard := some (6, false) }, { dst := some 18, op := Op.binOp BinOp.gtr 3 (Operand.tmp 17) (Operand.const (Value.int IntKind.i64 0)) 3, type := 4, pos := "l7_value.go:29", after := #[{ on := 7, ground := Ground.data }, { on := 6, ground := Ground.guard }], guard := some (6, false) }, { dst := some 19, op := Op.move (Operand.tmp 18), type := 4, pos := "l7_value.go:29", after := #[{ on := 8, ground := Ground.data }, { on := 6, ground := Ground.chain }, { on := 6, ground := Ground.guard }], guard := some (6, false) }, { dst := some 20, op := Op.move (Operand.tmp 0), type := 26, pos := "l7_value.go:29", after := #[{ on := 9, ground := Ground.guard }], guard := some (9, true) }, { dst := some 21, op := Op.move (Operand.tmp 3), type := 3, pos := "l7_value.go:29", after := #[{ on := 9, ground := Ground.guard }], guard := some (9, true) }, { dst := some 22, op := Op.binOp BinOp.sub 3 (Operand.tmp 21) (Operand.const (Value.int IntKind.i64 1)) 3, type := 3, pos := "l7_value.go:29", after := #[{ on := 11, ground := Ground.data }, { on := 9, ground := Ground.guard }], guard := some (9, true) }, { dst := some 23, op := Op.indexAddr 26 (Operand.tmp 20) (Operand.tmp 22), type := 0, pos := "l7_value.go:29", after := #[{ on := 10, ground := Ground.data }, { on := 12, ground := Ground.data }, { on := 9, ground := Ground.guard }], guard := some (9, true) }, { dst := some 24, op := Op.load 9 (Operand.tmp 23), type := 9, pos := "l7_value.go:29", after := #[{ on := 13, ground := Ground.data }, { on := 9, ground := Ground.guard }], guard := some (9, true) }, { dst := some 25, op := Op.move (Operand.tmp 0), type := 26, pos := "l7_value.go:29", after := #[{ on := 9, ground := Ground.guard }], guard := some (9, true) }, { dst := some 26, op := Op.move (Operand.tmp 3), type := 3, pos := "l7_value.go:29", after := #[{ on := 9, ground := Ground.guard }], guard := some (9, true) }, { dst := some 27, op := Op.indexAddr 26 (Operand.tmp 25) (Operand.tmp 26), type := 0, pos := "l7_value.go:29", after := #[{ on := 15, ground := Ground.data }, { on := 16, ground := Ground.data }, { on := 9, ground := Ground.guard }], guard := some (9, true) }, { dst := some 28, op := Op.load 9 (Operand.tmp 27), type := 9, pos := "l7_value.go:29", after := #[{ on := 17, ground := Ground.data }, { on := 9, ground := Ground.guard }], guard := some (9, true) }, { dst := some 29, op := Op.binOp BinOp.geq 9 (Operand.tmp 24) (Operand.tmp 28) 9, type := 4, pos := "l7_value.go:29", after := #[{ on := 14, ground := Ground.data }, { on := 18, ground := Ground.data }, { on := 9, ground := Ground.guard }], guard := some (9, true) }, { dst := some 30, op := Op.pick (Operand.tmp 19) (Operand.tmp 29) (Operand.const (Value.bool false)), type := 4, pos := "l7_value.go:29", after := #[{ on := 9, ground := Ground.data }, { on := 19, ground := Ground.data }, { on := 6, ground := Ground.guard }], guard := some (6, false) }, { dst := some 31, op := Op.pick (Operand.tmp 16) (Operand.const (Value.bool true)) (Operand.tmp 30), type := 4, pos := "l7_value.go:29", after := #[{ on := 6, ground := Ground.data }, { on := 20, ground := Ground.data }], guard := none }] true) Q { tmps := ((.slice (some ⟨b, o, none⟩) n c) :: t1 :: t2 :: (.int .i64 (j : Nat)) :: t4 :: t5 :: t6 :: t7 :: t8 :: t9 :: t10 :: t11 :: t12 :: t13 :: t14 :: t15 :: t16 :: t17 :: t18 :: t19 :: t20 :: t21 :: t22 :: t23 :: t24 :: t25 :: t26 :: t27 :: t28 :: t29 :: t30 :: t31 :: []).toArray, defers := [] } W := by
  have HSof : Hid (∀ w', Below W.heap.size W w' → w'.cell? ⟨b, o + j, none⟩ = some (.string s)) := fun w' h => (h.cell (p := ⟨b, o + j, none⟩) (World.block_lt_of_cell? _ _ h1)).trans h1
  have hS0 := HSof.out _ ((Below.refl _ W).drew)
  have hB0 := (Below.refl W.heap.size W).drew
  refine wp_region_held_drew (S := fun w' => w'.cell? ⟨b, o + j, none⟩ = some (.string s)) (by kernel_rfl) hS0 (fun hHeld => ?_)
  refine wpAnyH_take (i := 0) (v := .slice (some ⟨b, o, none⟩) n c) rfl (by kernel_rfl) (by kernel_rfl) (by kernel_rfl) (fun _ _ _ h => hp _ _ _ _ _ h) (Or.inl ⟨by rfl, ?_⟩) (by assumption) ?_
  · intro w hSw
    (try dsimp only at hSw)
    go_simp
  (try simp only [Act.put, List.getElem_toArray, List.getElem_cons_zero, List.setIfInBounds_toArray, List.set_cons_zero, List.set_cons_succ])
  refine wpAnyH_take (i := 1) (v := .int .i64 (j : Nat)) rfl (by kernel_rfl) (by kernel_rfl) (by kernel_rfl) (fun _ _ _ h => hp _ _ _ _ _ h) (Or.inl ⟨by rfl, ?_⟩) (by assumption) ?_
  · intro w hSw
    (try dsimp only at hSw)
    go_simp
  (try simp only [Act.put, List.getElem_toArray, List.getElem_cons_zero, List.getElem_cons_succ, List.setIfInBounds_toArray, List.set_cons_zero, List.set_cons_succ])
  refine wpAnyH_take (i := 2) (v := .pointer (some ⟨b, o + j, none⟩)) rfl (by kernel_rfl) (by kernel_rfl) (by kernel_rfl) (fun _ _ _ h => hp _ _ _ _ _ h) (Or.inl ⟨by rfl, ?_⟩) (by assumption) ?_
  · intro w hSw
    (try dsimp only at hSw)
    go_simp
  (try simp only [Act.put, List.getElem_toArray, List.getElem_cons_zero, List.getElem_cons_succ, List.setIfInBounds_toArray, List.set_cons_zero, List.set_cons_succ])
  refine wpAnyH_take (i := 3) (v := .string s) rfl (by kernel_rfl) (by kernel_rfl) (by kernel_rfl) (fun _ _ _ h => hp _ _ _ _ _ h) (Or.inl ⟨by rfl, ?_⟩) (by assumption) ?_
  · intro w hSw
    (try dsimp only at hSw)
    go_simp
  (try simp only [Act.put, List.getElem_toArray, List.getElem_cons_zero, List.getElem_cons_succ, List.setIfInBounds_toArray, List.set_cons_zero, List.set_cons_succ])
  refine wpAnyH_ready (rs := [4]) (by kernel_rfl) (by simp) ?_
  refine AllReadyH.cons rfl (fun K hK => ?_) AllReadyH.nil
  go_simp
  refine (sNameOk_any s _ hs).mono ?_
  rintro r w1 ⟨rfl, hb1⟩
  have hB1 := hB0.trans (hb1.mono hB0.size)
  rw [hr]
  go_wp2_with fail
  refine hK.out _ _ (HSof.out _ hB1) (fun hHeld => ?_)
  clear hK K hb1 hB0
  refine wpAnyH_take (i := 5) (v := .bool true) rfl (by kernel_rfl) (by kernel_rfl) (by kernel_rfl) (fun _ _ _ h => hp _ _ _ _ _ h) (Or.inl ⟨by rfl, ?_⟩) (by assumption) ?_
  · intro w hSw
    (try dsimp only at hSw)
    go_simp
  (try simp only [Act.put, List.getElem_toArray, List.getElem_cons_zero, List.getElem_cons_succ, List.setIfInBounds_toArray, List.set_cons_zero, List.set_cons_succ])
  refine wpAnyH_take (i := 6) (v := .bool true) rfl (by kernel_rfl) (by kernel_rfl) (by kernel_rfl) (fun _ _ _ h => hp _ _ _ _ _ h) (Or.inl ⟨by rfl, ?_⟩) (by assumption) ?_
  · intro w hSw
    (try dsimp only at hSw)
    go_simp
  (try simp only [Act.put, List.getElem_toArray, List.getElem_cons_zero, List.getElem_cons_succ, List.setIfInBounds_toArray, List.set_cons_zero, List.set_cons_succ])
  refine wpAnyH_take (i := 7) (v := undef) rfl (by kernel_rfl) (by kernel_rfl) (by kernel_rfl) (fun _ _ _ h => hp _ _ _ _ _ h) (Or.inr ⟨by rfl, rfl⟩) (by assumption) ?_
  (try simp only [Act.put, List.getElem_toArray, List.getElem_cons_zero, List.getElem_cons_succ, List.setIfInBounds_toArray, List.set_cons_zero, List.set_cons_succ])
  refine wpAnyH_take (i := 8) (v := undef) rfl (by kernel_rfl) (by kernel_rfl) (by kernel_rfl) (fun _ _ _ h => hp _ _ _ _ _ h) (Or.inr ⟨by rfl, rfl⟩) (by assumption) ?_
  (try simp only [Act.put, List.getElem_toArray, List.getElem_cons_zero, List.getElem_cons_succ, List.setIfInBounds_toArray, List.set_cons_zero, List.set_cons_succ])
  refine wpAnyH_take (i := 9) (v := undef) rfl (by kernel_rfl) (by kernel_rfl) (by kernel_rfl) (fun _ _ _ h => hp _ _ _ _ _ h) (Or.inr ⟨by rfl, rfl⟩) (by assumption) ?_
  (try simp only [Act.put, List.getElem_toArray, List.getElem_cons_zero, List.getElem_cons_succ, List.setIfInBounds_toArray, List.set_cons_zero, List.set_cons_succ])
  refine wpAnyH_take (i := 10) (v := undef) rfl (by kernel_rfl) (by kernel_rfl) (by kernel_rfl) (fun _ _ _ h => hp _ _ _ _ _ h) (Or.inr ⟨by rfl, rfl⟩) (by assumption) ?_
  (try simp only [Act.put, List.getElem_toArray, List.getElem_cons_zero, List.getElem_cons_succ, List.setIfInBounds_toArray, List.set_cons_zero, List.set_cons_succ])
  refine wpAnyH_take (i := 11) (v := undef) rfl (by kernel_rfl) (by kernel_rfl) (by kernel_rfl) (fun _ _ _ h => hp _ _ _ _ _ h) (Or.inr ⟨by rfl, rfl⟩) (by assumption) ?_
  (try simp only [Act.put, List.getElem_toArray, List.getElem_cons_zero, List.getElem_cons_succ, List.setIfInBounds_toArray, List.set_cons_zero, List.set_cons_succ])
  refine wpAnyH_take (i := 12) (v := undef) rfl (by kernel_rfl) (by kernel_rfl) (by kernel_rfl) (fun _ _ _ h => hp _ _ _ _ _ h) (Or.inr ⟨by rfl, rfl⟩) (by assumption) ?_
  (try simp only [Act.put, List.getElem_toArray, List.getElem_cons_zero, List.getElem_cons_succ, List.setIfInBounds_toArray, List.set_cons_zero, List.set_cons_succ])
  refine wpAnyH_take (i := 13) (v := undef) rfl (by kernel_rfl) (by kernel_rfl) (by kernel_rfl) (fun _ _ _ h => hp _ _ _ _ _ h) (Or.inr ⟨by rfl, rfl⟩) (by assumption) ?_
  (try simp only [Act.put, List.getElem_toArray, List.getElem_cons_zero, List.getElem_cons_succ, List.setIfInBounds_toArray, List.set_cons_zero, List.set_cons_succ])
  refine wpAnyH_take (i := 14) (v := undef) rfl (by kernel_rfl) (by kernel_rfl) (by kernel_rfl) (fun _ _ _ h => hp _ _ _ _ _ h) (Or.inr ⟨by rfl, rfl⟩) (by assumption) ?_
  (try simp only [Act.put, List.getElem_toArray, List.getElem_cons_zero, List.getElem_cons_succ, List.setIfInBounds_toArray, List.set_cons_zero, List.set_cons_succ])
  refine wpAnyH_take (i := 15) (v := undef) rfl (by kernel_rfl) (by kernel_rfl) (by kernel_rfl) (fun _ _ _ h => hp _ _ _ _ _ h) (Or.inr ⟨by rfl, rfl⟩) (by assumption) ?_
  (try simp only [Act.put, List.getElem_toArray, List.getElem_cons_zero, List.getElem_cons_succ, List.setIfInBounds_toArray, List.set_cons_zero, List.set_cons_succ])
  refine wpAnyH_take (i := 16) (v := undef) rfl (by kernel_rfl) (by kernel_rfl) (by kernel_rfl) (fun _ _ _ h => hp _ _ _ _ _ h) (Or.inr ⟨by rfl, rfl⟩) (by assumption) ?_
  (try simp only [Act.put, List.getElem_toArray, List.getElem_cons_zero, List.getElem_cons_succ, List.setIfInBounds_toArray, List.set_cons_zero, List.set_cons_succ])
  refine wpAnyH_take (i := 17) (v := undef) rfl (by kernel_rfl) (by kernel_rfl) (by kernel_rfl) (fun _ _ _ h => hp _ _ _ _ _ h) (Or.inr ⟨by rfl, rfl⟩) (by assumption) ?_
  (try simp only [Act.put, List.getElem_toArray, List.getElem_cons_zero, List.getElem_cons_succ, List.setIfInBounds_toArray, List.set_cons_zero, List.set_cons_succ])
  refine wpAnyH_take (i := 18) (v := undef) rfl (by kernel_rfl) (by kernel_rfl) (by kernel_rfl) (fun _ _ _ h => hp _ _ _ _ _ h) (Or.inr ⟨by rfl, rfl⟩) (by assumption) ?_
  (try simp only [Act.put, List.getElem_toArray, List.getElem_cons_zero, List.getElem_cons_succ, List.setIfInBounds_toArray, List.set_cons_zero, List.set_cons_succ])
  refine wpAnyH_take (i := 19) (v := undef) rfl (by kernel_rfl) (by kernel_rfl) (by kernel_rfl) (fun _ _ _ h => hp _ _ _ _ _ h) (Or.inr ⟨by rfl, rfl⟩) (by assumption) ?_
  (try simp only [Act.put, List.getElem_toArray, List.getElem_cons_zero, List.getElem_cons_succ, List.setIfInBounds_toArray, List.set_cons_zero, List.set_cons_succ])
  refine wpAnyH_take (i := 20) (v := undef) rfl (by kernel_rfl) (by kernel_rfl) (by kernel_rfl) (fun _ _ _ h => hp _ _ _ _ _ h) (Or.inr ⟨by rfl, rfl⟩) (by assumption) ?_
  (try simp only [Act.put, List.getElem_toArray, List.getElem_cons_zero, List.getElem_cons_succ, List.setIfInBounds_toArray, List.set_cons_zero, List.set_cons_succ])
  refine wpAnyH_take (i := 21) (v := .bool true) rfl (by kernel_rfl) (by kernel_rfl) (by kernel_rfl) (fun _ _ _ h => hp _ _ _ _ _ h) (Or.inl ⟨by rfl, ?_⟩) (by assumption) ?_
  · intro w hSw
    (try dsimp only at hSw)
    go_simp
  (try simp only [Act.put, List.getElem_toArray, List.getElem_cons_zero, List.getElem_cons_succ, List.setIfInBounds_toArray, List.set_cons_zero, List.set_cons_succ])
  refine wpAnyH_done (by kernel_rfl) ?_ _
  exact h _ _ _ _ _ _ _ _ _ _ _ _ _ _ _ _ _ _ _ _ _ _ hB1
set_option maxRecDepth 100000 in
set_option maxHeartbeats 1000000 in
theorem nmB {Q : Exit → Act → World → Prop} {t1 t2 t4 t5 t6 t7 t8 t9 t10 t11 t12 t13 t14 t15 t16 t17 t18 t19 t20 t21 t22 t23 t24 t25 t26 t27 t28 t29 t30 t31 : Value} {W : World} {b o n c : Nat} {s : ByteArray}
    (hj : ¬ n = 0) (h1 : W.cell? ⟨b, o, none⟩ = some (.string s)) (hs : s.size ≤ maxLen) (hr : Qm.name s = true)
    (hp : ∀ p d v a w, Q (.panic p) (Act.put a d v) w → Q (.panic p) a w) (h : ∀ ws v10 v11 v12 v13 v14 v15 v16 v17 v18 v19 v20 v21 v22 v23 v24 v25 v26 v27 v28 v29 v30, Below W.heap.size W ws → Q .normal { tmps := ((.slice (some ⟨b, o, none⟩) n c) :: t1 :: t2 :: (.int .i64 (0 : Nat)) :: t4 :: t5 :: t6 :: t7 :: t8 :: t9 :: v10 :: v11 :: v12 :: v13 :: v14 :: v15 :: v16 :: v17 :: v18 :: v19 :: v20 :: v21 :: v22 :: v23 :: v24 :: v25 :: v26 :: v27 :: v28 :: v29 :: v30 :: .bool false :: []).toArray, defers := [] } ws) :
    Code.wp Try.prog (Code.region 4 #[{ dst := some 10, op := Op.move (Operand.tmp 0), type := 26, pos := "l7_value.go:29", after := #[], guard := none }, { dst := some 11, op := Op.move (Operand.tmp 3), type := 3, pos := "l7_value.go:29", after := #[], guard := none }, { dst := some 12, op := Op.indexAddr 26 (Operand.tmp 10) (Operand.tmp 11), type := 0, pos := "l7_value.go:29", after := #[{ on := 0, ground := Ground.data }, { on := 1, ground := Ground.data }], guard := none }, { dst := some 13, op := Op.load 9 (Operand.tmp 12), type := 9, pos := "l7_value.go:29", after := #[{ on := 2, ground := Ground.data }], guard := none }, { dst := some 14, op := Op.call { callee := Callee.value (Operand.func 97), args := #[Operand.tmp 13], argTypes := #[9] }, type := 4, pos := "l7_value.go:29", after := #[{ on := 3, ground := Ground.data }], guard := none }, { dst := some 15, op := Op.unOp UnOp.not 4 (Operand.tmp 14), type := 4, pos := "l7_value.go:29", after := #[{ on := 4, ground := Ground.data }], guard := none }, { dst := some 16, op := Op.move (Operand.tmp 15), type := 4, pos := "l7_value.go:29", after := #[{ on := 5, ground := Ground.data }, { on := 4, ground := Ground.chain }], guard := none }, { dst := some 17, op := Op.move (Operand.tmp 3), type := 3, pos := "l7_value.go:29", after := #[{ on := 6, ground := Ground.guard }], guard := some (6, false) }, { dst := some 18, op := Op.binOp BinOp.gtr 3 (Operand.tmp 17) (Operand.const (Value.int IntKind.i64 0)) 3, type := 4, pos := "l7_value.go:29", after := #[{ on := 7, ground := Ground.data }, { on := 6, ground := Ground.guard }], guard := some (6, false) }, { dst := some 19, op := Op.move (Operand.tmp 18), type := 4, pos := "l7_value.go:29", after := #[{ on := 8, ground := Ground.data }, { on := 6, ground := Ground.chain }, { on := 6, ground := Ground.guard }], guard := some (6, false) }, { dst := some 20, op := Op.move (Operand.tmp 0), type := 26, pos := "l7_value.go:29", after := #[{ on := 9, ground := Ground.guard }], guard := some (9, true) }, { dst := some 21, op := Op.move (Operand.tmp 3), type := 3, pos := "l7_value.go:29", after := #[{ on := 9, ground := Ground.guard }], guard := some (9, true) }, { dst := some 22, op := Op.binOp BinOp.sub 3 (Operand.tmp 21) (Operand.const (Value.int IntKind.i64 1)) 3, type := 3, pos := "l7_value.go:29", after := #[{ on := 11, ground := Ground.data }, { on := 9, ground := Ground.guard }], guard := some (9, true) }, { dst := some 23, op := Op.indexAddr 26 (Operand.tmp 20) (Operand.tmp 22), type := 0, pos := "l7_value.go:29", after := #[{ on := 10, ground := Ground.data }, { on := 12, ground := Ground.data }, { on := 9, ground := Ground.guard }], guard := some (9, true) }, { dst := some 24, op := Op.load 9 (Operand.tmp 23), type := 9, pos := "l7_value.go:29", after := #[{ on := 13, ground := Ground.data }, { on := 9, ground := Ground.guard }], guard := some (9, true) }, { dst := some 25, op := Op.move (Operand.tmp 0), type := 26, pos := "l7_value.go:29", after := #[{ on := 9, ground := Ground.guard }], guard := some (9, true) }, { dst := some 26, op := Op.move (Operand.tmp 3), type := 3, pos := "l7_value.go:29", after := #[{ on := 9, ground := Ground.guard }], guard := some (9, true) }, { dst := some 27, op := Op.indexAddr 26 (Operand.tmp 25) (Operand.tmp 26), type := 0, pos := "l7_value.go:29", after := #[{ on := 15, ground := Ground.data }, { on := 16, ground := Ground.data }, { on := 9, ground := Ground.guard }], guard := some (9, true) }, { dst := some 28, op := Op.load 9 (Operand.tmp 27), type := 9, pos := "l7_value.go:29", after := #[{ on := 17, ground := Ground.data }, { on := 9, ground := Ground.guard }], guard := some (9, true) }, { dst := some 29, op := Op.binOp BinOp.geq 9 (Operand.tmp 24) (Operand.tmp 28) 9, type := 4, pos := "l7_value.go:29", after := #[{ on := 14, ground := Ground.data }, { on := 18, ground := Ground.data }, { on := 9, ground := Ground.guard }], guard := some (9, true) }, { dst := some 30, op := Op.pick (Operand.tmp 19) (Operand.tmp 29) (Operand.const (Value.bool false)), type := 4, pos := "l7_value.go:29", after := #[{ on := 9, ground := Ground.data }, { on := 19, ground := Ground.data }, { on := 6, ground := Ground.guard }], guard := some (6, false) }, { dst := some 31, op := Op.pick (Operand.tmp 16) (Operand.const (Value.bool true)) (Operand.tmp 30), type := 4, pos := "l7_value.go:29", after := #[{ on := 6, ground := Ground.data }, { on := 20, ground := Ground.data }], guard := none }] true) Q { tmps := ((.slice (some ⟨b, o, none⟩) n c) :: t1 :: t2 :: (.int .i64 (0 : Nat)) :: t4 :: t5 :: t6 :: t7 :: t8 :: t9 :: t10 :: t11 :: t12 :: t13 :: t14 :: t15 :: t16 :: t17 :: t18 :: t19 :: t20 :: t21 :: t22 :: t23 :: t24 :: t25 :: t26 :: t27 :: t28 :: t29 :: t30 :: t31 :: []).toArray, defers := [] } W := by
  have HSof : Hid (∀ w', Below W.heap.size W w' → w'.cell? ⟨b, o, none⟩ = some (.string s)) := fun w' h => (h.cell (p := ⟨b, o, none⟩) (World.block_lt_of_cell? _ _ h1)).trans h1
  have hS0 := HSof.out _ ((Below.refl _ W).drew)
  have hB0 := (Below.refl W.heap.size W).drew
  refine wp_region_held_drew (S := fun w' => w'.cell? ⟨b, o, none⟩ = some (.string s)) (by kernel_rfl) hS0 (fun hHeld => ?_)
  refine wpAnyH_take (i := 0) (v := .slice (some ⟨b, o, none⟩) n c) rfl (by kernel_rfl) (by kernel_rfl) (by kernel_rfl) (fun _ _ _ h => hp _ _ _ _ _ h) (Or.inl ⟨by rfl, ?_⟩) (by assumption) ?_
  · intro w hSw
    (try dsimp only at hSw)
    go_simp
  (try simp only [Act.put, List.getElem_toArray, List.getElem_cons_zero, List.setIfInBounds_toArray, List.set_cons_zero, List.set_cons_succ])
  refine wpAnyH_take (i := 1) (v := .int .i64 (0 : Nat)) rfl (by kernel_rfl) (by kernel_rfl) (by kernel_rfl) (fun _ _ _ h => hp _ _ _ _ _ h) (Or.inl ⟨by rfl, ?_⟩) (by assumption) ?_
  · intro w hSw
    (try dsimp only at hSw)
    go_simp
  (try simp only [Act.put, List.getElem_toArray, List.getElem_cons_zero, List.getElem_cons_succ, List.setIfInBounds_toArray, List.set_cons_zero, List.set_cons_succ])
  refine wpAnyH_take (i := 2) (v := .pointer (some ⟨b, o, none⟩)) rfl (by kernel_rfl) (by kernel_rfl) (by kernel_rfl) (fun _ _ _ h => hp _ _ _ _ _ h) (Or.inl ⟨by rfl, ?_⟩) (by assumption) ?_
  · intro w hSw
    (try dsimp only at hSw)
    go_simp
  (try simp only [Act.put, List.getElem_toArray, List.getElem_cons_zero, List.getElem_cons_succ, List.setIfInBounds_toArray, List.set_cons_zero, List.set_cons_succ])
  refine wpAnyH_take (i := 3) (v := .string s) rfl (by kernel_rfl) (by kernel_rfl) (by kernel_rfl) (fun _ _ _ h => hp _ _ _ _ _ h) (Or.inl ⟨by rfl, ?_⟩) (by assumption) ?_
  · intro w hSw
    (try dsimp only at hSw)
    go_simp
  (try simp only [Act.put, List.getElem_toArray, List.getElem_cons_zero, List.getElem_cons_succ, List.setIfInBounds_toArray, List.set_cons_zero, List.set_cons_succ])
  refine wpAnyH_ready (rs := [4]) (by kernel_rfl) (by simp) ?_
  refine AllReadyH.cons rfl (fun K hK => ?_) AllReadyH.nil
  go_simp
  refine (sNameOk_any s _ hs).mono ?_
  rintro r w1 ⟨rfl, hb1⟩
  have hB1 := hB0.trans (hb1.mono hB0.size)
  rw [hr]
  go_wp2_with fail
  refine hK.out _ _ (HSof.out _ hB1) (fun hHeld => ?_)
  clear hK K hb1 hB0
  refine wpAnyH_take (i := 5) (v := .bool false) rfl (by kernel_rfl) (by kernel_rfl) (by kernel_rfl) (fun _ _ _ h => hp _ _ _ _ _ h) (Or.inl ⟨by rfl, ?_⟩) (by assumption) ?_
  · intro w hSw
    (try dsimp only at hSw)
    go_simp
  (try simp only [Act.put, List.getElem_toArray, List.getElem_cons_zero, List.getElem_cons_succ, List.setIfInBounds_toArray, List.set_cons_zero, List.set_cons_succ])
  refine wpAnyH_take (i := 6) (v := .bool false) rfl (by kernel_rfl) (by kernel_rfl) (by kernel_rfl) (fun _ _ _ h => hp _ _ _ _ _ h) (Or.inl ⟨by rfl, ?_⟩) (by assumption) ?_
  · intro w hSw
    (try dsimp only at hSw)
    go_simp
  (try simp only [Act.put, List.getElem_toArray, List.getElem_cons_zero, List.getElem_cons_succ, List.setIfInBounds_toArray, List.set_cons_zero, List.set_cons_succ])
  refine wpAnyH_take (i := 7) (v := .int .i64 (0 : Nat)) rfl (by kernel_rfl) (by kernel_rfl) (by kernel_rfl) (fun _ _ _ h => hp _ _ _ _ _ h) (Or.inl ⟨by rfl, ?_⟩) (by assumption) ?_
  · intro w hSw
    (try dsimp only at hSw)
    go_simp
  (try simp only [Act.put, List.getElem_toArray, List.getElem_cons_zero, List.getElem_cons_succ, List.setIfInBounds_toArray, List.set_cons_zero, List.set_cons_succ])
  refine wpAnyH_take (i := 8) (v := .bool false) rfl (by kernel_rfl) (by kernel_rfl) (by kernel_rfl) (fun _ _ _ h => hp _ _ _ _ _ h) (Or.inl ⟨by rfl, ?_⟩) (by assumption) ?_
  · intro w hSw
    (try dsimp only at hSw)
    go_simp
  (try simp only [Act.put, List.getElem_toArray, List.getElem_cons_zero, List.getElem_cons_succ, List.setIfInBounds_toArray, List.set_cons_zero, List.set_cons_succ])
  refine wpAnyH_take (i := 9) (v := .bool false) rfl (by kernel_rfl) (by kernel_rfl) (by kernel_rfl) (fun _ _ _ h => hp _ _ _ _ _ h) (Or.inl ⟨by rfl, ?_⟩) (by assumption) ?_
  · intro w hSw
    (try dsimp only at hSw)
    go_simp
  (try simp only [Act.put, List.getElem_toArray, List.getElem_cons_zero, List.getElem_cons_succ, List.setIfInBounds_toArray, List.set_cons_zero, List.set_cons_succ])
  refine wpAnyH_take (i := 10) (v := undef) rfl (by kernel_rfl) (by kernel_rfl) (by kernel_rfl) (fun _ _ _ h => hp _ _ _ _ _ h) (Or.inr ⟨by rfl, rfl⟩) (by assumption) ?_
  (try simp only [Act.put, List.getElem_toArray, List.getElem_cons_zero, List.getElem_cons_succ, List.setIfInBounds_toArray, List.set_cons_zero, List.set_cons_succ])
  refine wpAnyH_take (i := 11) (v := undef) rfl (by kernel_rfl) (by kernel_rfl) (by kernel_rfl) (fun _ _ _ h => hp _ _ _ _ _ h) (Or.inr ⟨by rfl, rfl⟩) (by assumption) ?_
  (try simp only [Act.put, List.getElem_toArray, List.getElem_cons_zero, List.getElem_cons_succ, List.setIfInBounds_toArray, List.set_cons_zero, List.set_cons_succ])
  refine wpAnyH_take (i := 12) (v := undef) rfl (by kernel_rfl) (by kernel_rfl) (by kernel_rfl) (fun _ _ _ h => hp _ _ _ _ _ h) (Or.inr ⟨by rfl, rfl⟩) (by assumption) ?_
  (try simp only [Act.put, List.getElem_toArray, List.getElem_cons_zero, List.getElem_cons_succ, List.setIfInBounds_toArray, List.set_cons_zero, List.set_cons_succ])
  refine wpAnyH_take (i := 13) (v := undef) rfl (by kernel_rfl) (by kernel_rfl) (by kernel_rfl) (fun _ _ _ h => hp _ _ _ _ _ h) (Or.inr ⟨by rfl, rfl⟩) (by assumption) ?_
  (try simp only [Act.put, List.getElem_toArray, List.getElem_cons_zero, List.getElem_cons_succ, List.setIfInBounds_toArray, List.set_cons_zero, List.set_cons_succ])
  refine wpAnyH_take (i := 14) (v := undef) rfl (by kernel_rfl) (by kernel_rfl) (by kernel_rfl) (fun _ _ _ h => hp _ _ _ _ _ h) (Or.inr ⟨by rfl, rfl⟩) (by assumption) ?_
  (try simp only [Act.put, List.getElem_toArray, List.getElem_cons_zero, List.getElem_cons_succ, List.setIfInBounds_toArray, List.set_cons_zero, List.set_cons_succ])
  refine wpAnyH_take (i := 15) (v := undef) rfl (by kernel_rfl) (by kernel_rfl) (by kernel_rfl) (fun _ _ _ h => hp _ _ _ _ _ h) (Or.inr ⟨by rfl, rfl⟩) (by assumption) ?_
  (try simp only [Act.put, List.getElem_toArray, List.getElem_cons_zero, List.getElem_cons_succ, List.setIfInBounds_toArray, List.set_cons_zero, List.set_cons_succ])
  refine wpAnyH_take (i := 16) (v := undef) rfl (by kernel_rfl) (by kernel_rfl) (by kernel_rfl) (fun _ _ _ h => hp _ _ _ _ _ h) (Or.inr ⟨by rfl, rfl⟩) (by assumption) ?_
  (try simp only [Act.put, List.getElem_toArray, List.getElem_cons_zero, List.getElem_cons_succ, List.setIfInBounds_toArray, List.set_cons_zero, List.set_cons_succ])
  refine wpAnyH_take (i := 17) (v := undef) rfl (by kernel_rfl) (by kernel_rfl) (by kernel_rfl) (fun _ _ _ h => hp _ _ _ _ _ h) (Or.inr ⟨by rfl, rfl⟩) (by assumption) ?_
  (try simp only [Act.put, List.getElem_toArray, List.getElem_cons_zero, List.getElem_cons_succ, List.setIfInBounds_toArray, List.set_cons_zero, List.set_cons_succ])
  refine wpAnyH_take (i := 18) (v := undef) rfl (by kernel_rfl) (by kernel_rfl) (by kernel_rfl) (fun _ _ _ h => hp _ _ _ _ _ h) (Or.inr ⟨by rfl, rfl⟩) (by assumption) ?_
  (try simp only [Act.put, List.getElem_toArray, List.getElem_cons_zero, List.getElem_cons_succ, List.setIfInBounds_toArray, List.set_cons_zero, List.set_cons_succ])
  refine wpAnyH_take (i := 19) (v := undef) rfl (by kernel_rfl) (by kernel_rfl) (by kernel_rfl) (fun _ _ _ h => hp _ _ _ _ _ h) (Or.inr ⟨by rfl, rfl⟩) (by assumption) ?_
  (try simp only [Act.put, List.getElem_toArray, List.getElem_cons_zero, List.getElem_cons_succ, List.setIfInBounds_toArray, List.set_cons_zero, List.set_cons_succ])
  refine wpAnyH_take (i := 20) (v := .bool false) rfl (by kernel_rfl) (by kernel_rfl) (by kernel_rfl) (fun _ _ _ h => hp _ _ _ _ _ h) (Or.inl ⟨by rfl, ?_⟩) (by assumption) ?_
  · intro w hSw
    (try dsimp only at hSw)
    go_simp
  (try simp only [Act.put, List.getElem_toArray, List.getElem_cons_zero, List.getElem_cons_succ, List.setIfInBounds_toArray, List.set_cons_zero, List.set_cons_succ])
  refine wpAnyH_take (i := 21) (v := .bool false) rfl (by kernel_rfl) (by kernel_rfl) (by kernel_rfl) (fun _ _ _ h => hp _ _ _ _ _ h) (Or.inl ⟨by rfl, ?_⟩) (by assumption) ?_
  · intro w hSw
    (try dsimp only at hSw)
    go_simp
  (try simp only [Act.put, List.getElem_toArray, List.getElem_cons_zero, List.getElem_cons_succ, List.setIfInBounds_toArray, List.set_cons_zero, List.set_cons_succ])
  refine wpAnyH_done (by kernel_rfl) ?_ _
  exact h _ _ _ _ _ _ _ _ _ _ _ _ _ _ _ _ _ _ _ _ _ _ hB1
set_option maxRecDepth 100000 in
set_option maxHeartbeats 1000000 in
theorem nmC {Q : Exit → Act → World → Prop} {t1 t2 t4 t5 t6 t7 t8 t9 t10 t11 t12 t13 t14 t15 t16 t17 t18 t19 t20 t21 t22 t23 t24 t25 t26 t27 t28 t29 t30 t31 : Value} {W : World} {b o n c : Nat} {s : ByteArray} {i : Nat} {p : ByteArray} {q : Bool}
    (hj : (i : Int) + 1 < (n : Int)) (h1 : W.cell? ⟨b, o + (i + 1), none⟩ = some (.string s)) (hs : s.size ≤ maxLen) (hr : Qm.name s = true) (him : (i : Int) ≤ 9223372036854775806) (h2 : W.cell? ⟨b, o + i, none⟩ = some (.string p)) (hq : Op.bytesLess p.toList s.toList = !q)
    (hp : ∀ p d v a w, Q (.panic p) (Act.put a d v) w → Q (.panic p) a w) (h : ∀ ws v10 v11 v12 v13 v14 v15 v16 v17 v18 v19 v20 v21 v22 v23 v24 v25 v26 v27 v28 v29 v30, Below W.heap.size W ws → Q .normal { tmps := ((.slice (some ⟨b, o, none⟩) n c) :: t1 :: t2 :: (.int .i64 ((i + 1 : Nat) : Int)) :: t4 :: t5 :: t6 :: t7 :: t8 :: t9 :: v10 :: v11 :: v12 :: v13 :: v14 :: v15 :: v16 :: v17 :: v18 :: v19 :: v20 :: v21 :: v22 :: v23 :: v24 :: v25 :: v26 :: v27 :: v28 :: v29 :: v30 :: .bool q :: []).toArray, defers := [] } ws) :
    Code.wp Try.prog (Code.region 4 #[{ dst := some 10, op := Op.move (Operand.tmp 0), type := 26, pos := "l7_value.go:29", after := #[], guard := none }, { dst := some 11, op := Op.move (Operand.tmp 3), type := 3, pos := "l7_value.go:29", after := #[], guard := none }, { dst := some 12, op := Op.indexAddr 26 (Operand.tmp 10) (Operand.tmp 11), type := 0, pos := "l7_value.go:29", after := #[{ on := 0, ground := Ground.data }, { on := 1, ground := Ground.data }], guard := none }, { dst := some 13, op := Op.load 9 (Operand.tmp 12), type := 9, pos := "l7_value.go:29", after := #[{ on := 2, ground := Ground.data }], guard := none }, { dst := some 14, op := Op.call { callee := Callee.value (Operand.func 97), args := #[Operand.tmp 13], argTypes := #[9] }, type := 4, pos := "l7_value.go:29", after := #[{ on := 3, ground := Ground.data }], guard := none }, { dst := some 15, op := Op.unOp UnOp.not 4 (Operand.tmp 14), type := 4, pos := "l7_value.go:29", after := #[{ on := 4, ground := Ground.data }], guard := none }, { dst := some 16, op := Op.move (Operand.tmp 15), type := 4, pos := "l7_value.go:29", after := #[{ on := 5, ground := Ground.data }, { on := 4, ground := Ground.chain }], guard := none }, { dst := some 17, op := Op.move (Operand.tmp 3), type := 3, pos := "l7_value.go:29", after := #[{ on := 6, ground := Ground.guard }], guard := some (6, false) }, { dst := some 18, op := Op.binOp BinOp.gtr 3 (Operand.tmp 17) (Operand.const (Value.int IntKind.i64 0)) 3, type := 4, pos := "l7_value.go:29", after := #[{ on := 7, ground := Ground.data }, { on := 6, ground := Ground.guard }], guard := some (6, false) }, { dst := some 19, op := Op.move (Operand.tmp 18), type := 4, pos := "l7_value.go:29", after := #[{ on := 8, ground := Ground.data }, { on := 6, ground := Ground.chain }, { on := 6, ground := Ground.guard }], guard := some (6, false) }, { dst := some 20, op := Op.move (Operand.tmp 0), type := 26, pos := "l7_value.go:29", after := #[{ on := 9, ground := Ground.guard }], guard := some (9, true) }, { dst := some 21, op := Op.move (Operand.tmp 3), type := 3, pos := "l7_value.go:29", after := #[{ on := 9, ground := Ground.guard }], guard := some (9, true) }, { dst := some 22, op := Op.binOp BinOp.sub 3 (Operand.tmp 21) (Operand.const (Value.int IntKind.i64 1)) 3, type := 3, pos := "l7_value.go:29", after := #[{ on := 11, ground := Ground.data }, { on := 9, ground := Ground.guard }], guard := some (9, true) }, { dst := some 23, op := Op.indexAddr 26 (Operand.tmp 20) (Operand.tmp 22), type := 0, pos := "l7_value.go:29", after := #[{ on := 10, ground := Ground.data }, { on := 12, ground := Ground.data }, { on := 9, ground := Ground.guard }], guard := some (9, true) }, { dst := some 24, op := Op.load 9 (Operand.tmp 23), type := 9, pos := "l7_value.go:29", after := #[{ on := 13, ground := Ground.data }, { on := 9, ground := Ground.guard }], guard := some (9, true) }, { dst := some 25, op := Op.move (Operand.tmp 0), type := 26, pos := "l7_value.go:29", after := #[{ on := 9, ground := Ground.guard }], guard := some (9, true) }, { dst := some 26, op := Op.move (Operand.tmp 3), type := 3, pos := "l7_value.go:29", after := #[{ on := 9, ground := Ground.guard }], guard := some (9, true) }, { dst := some 27, op := Op.indexAddr 26 (Operand.tmp 25) (Operand.tmp 26), type := 0, pos := "l7_value.go:29", after := #[{ on := 15, ground := Ground.data }, { on := 16, ground := Ground.data }, { on := 9, ground := Ground.guard }], guard := some (9, true) }, { dst := some 28, op := Op.load 9 (Operand.tmp 27), type := 9, pos := "l7_value.go:29", after := #[{ on := 17, ground := Ground.data }, { on := 9, ground := Ground.guard }], guard := some (9, true) }, { dst := some 29, op := Op.binOp BinOp.geq 9 (Operand.tmp 24) (Operand.tmp 28) 9, type := 4, pos := "l7_value.go:29", after := #[{ on := 14, ground := Ground.data }, { on := 18, ground := Ground.data }, { on := 9, ground := Ground.guard }], guard := some (9, true) }, { dst := some 30, op := Op.pick (Operand.tmp 19) (Operand.tmp 29) (Operand.const (Value.bool false)), type := 4, pos := "l7_value.go:29", after := #[{ on := 9, ground := Ground.data }, { on := 19, ground := Ground.data }, { on := 6, ground := Ground.guard }], guard := some (6, false) }, { dst := some 31, op := Op.pick (Operand.tmp 16) (Operand.const (Value.bool true)) (Operand.tmp 30), type := 4, pos := "l7_value.go:29", after := #[{ on := 6, ground := Ground.data }, { on := 20, ground := Ground.data }], guard := none }] true) Q { tmps := ((.slice (some ⟨b, o, none⟩) n c) :: t1 :: t2 :: (.int .i64 ((i + 1 : Nat) : Int)) :: t4 :: t5 :: t6 :: t7 :: t8 :: t9 :: t10 :: t11 :: t12 :: t13 :: t14 :: t15 :: t16 :: t17 :: t18 :: t19 :: t20 :: t21 :: t22 :: t23 :: t24 :: t25 :: t26 :: t27 :: t28 :: t29 :: t30 :: t31 :: []).toArray, defers := [] } W := by
  have HSof : Hid (∀ w', Below W.heap.size W w' → w'.cell? ⟨b, o + (i + 1), none⟩ = some (.string s) ∧ w'.cell? ⟨b, o + i, none⟩ = some (.string p)) := fun w' h => ⟨(h.cell (p := ⟨b, o + (i + 1), none⟩) (World.block_lt_of_cell? _ _ h1)).trans h1, (h.cell (p := ⟨b, o + i, none⟩) (World.block_lt_of_cell? _ _ h2)).trans h2⟩
  have hj0 : ¬ (i : Int) + 1 < 0 := by omega
  have hS0 := HSof.out _ ((Below.refl _ W).drew)
  have hB0 := (Below.refl W.heap.size W).drew
  refine wp_region_held_drew (S := fun w' => w'.cell? ⟨b, o + (i + 1), none⟩ = some (.string s) ∧ w'.cell? ⟨b, o + i, none⟩ = some (.string p)) (by kernel_rfl) hS0 (fun hHeld => ?_)
  refine wpAnyH_take (i := 0) (v := .slice (some ⟨b, o, none⟩) n c) rfl (by kernel_rfl) (by kernel_rfl) (by kernel_rfl) (fun _ _ _ h => hp _ _ _ _ _ h) (Or.inl ⟨by rfl, ?_⟩) (by assumption) ?_
  · intro w hSw
    (try dsimp only at hSw)
    go_simp
  (try simp only [Act.put, List.getElem_toArray, List.getElem_cons_zero, List.setIfInBounds_toArray, List.set_cons_zero, List.set_cons_succ])
  refine wpAnyH_take (i := 1) (v := .int .i64 ((i + 1 : Nat) : Int)) rfl (by kernel_rfl) (by kernel_rfl) (by kernel_rfl) (fun _ _ _ h => hp _ _ _ _ _ h) (Or.inl ⟨by rfl, ?_⟩) (by assumption) ?_
  · intro w hSw
    (try dsimp only at hSw)
    go_simp
  (try simp only [Act.put, List.getElem_toArray, List.getElem_cons_zero, List.getElem_cons_succ, List.setIfInBounds_toArray, List.set_cons_zero, List.set_cons_succ])
  refine wpAnyH_take (i := 2) (v := .pointer (some ⟨b, o + (i + 1), none⟩)) rfl (by kernel_rfl) (by kernel_rfl) (by kernel_rfl) (fun _ _ _ h => hp _ _ _ _ _ h) (Or.inl ⟨by rfl, ?_⟩) (by assumption) ?_
  · intro w hSw
    (try dsimp only at hSw)
    go_simp
  (try simp only [Act.put, List.getElem_toArray, List.getElem_cons_zero, List.getElem_cons_succ, List.setIfInBounds_toArray, List.set_cons_zero, List.set_cons_succ])
  refine wpAnyH_take (i := 3) (v := .string s) rfl (by kernel_rfl) (by kernel_rfl) (by kernel_rfl) (fun _ _ _ h => hp _ _ _ _ _ h) (Or.inl ⟨by rfl, ?_⟩) (by assumption) ?_
  · intro w hSw
    (try dsimp only at hSw)
    go_simp
  (try simp only [Act.put, List.getElem_toArray, List.getElem_cons_zero, List.getElem_cons_succ, List.setIfInBounds_toArray, List.set_cons_zero, List.set_cons_succ])
  refine wpAnyH_ready (rs := [4]) (by kernel_rfl) (by simp) ?_
  refine AllReadyH.cons rfl (fun K hK => ?_) AllReadyH.nil
  go_simp
  refine (sNameOk_any s _ hs).mono ?_
  rintro r w1 ⟨rfl, hb1⟩
  have hB1 := hB0.trans (hb1.mono hB0.size)
  rw [hr]
  go_wp2_with fail
  refine hK.out _ _ (HSof.out _ hB1) (fun hHeld => ?_)
  clear hK K hb1 hB0
  refine wpAnyH_take (i := 5) (v := .bool false) rfl (by kernel_rfl) (by kernel_rfl) (by kernel_rfl) (fun _ _ _ h => hp _ _ _ _ _ h) (Or.inl ⟨by rfl, ?_⟩) (by assumption) ?_
  · intro w hSw
    (try dsimp only at hSw)
    go_simp
  (try simp only [Act.put, List.getElem_toArray, List.getElem_cons_zero, List.getElem_cons_succ, List.setIfInBounds_toArray, List.set_cons_zero, List.set_cons_succ])
  refine wpAnyH_take (i := 6) (v := .bool false) rfl (by kernel_rfl) (by kernel_rfl) (by kernel_rfl) (fun _ _ _ h => hp _ _ _ _ _ h) (Or.inl ⟨by rfl, ?_⟩) (by assumption) ?_
  · intro w hSw
    (try dsimp only at hSw)
    go_simp
  (try simp only [Act.put, List.getElem_toArray, List.getElem_cons_zero, List.getElem_cons_succ, List.setIfInBounds_toArray, List.set_cons_zero, List.set_cons_succ])
  refine wpAnyH_take (i := 7) (v := .int .i64 ((i + 1 : Nat) : Int)) rfl (by kernel_rfl) (by kernel_rfl) (by kernel_rfl) (fun _ _ _ h => hp _ _ _ _ _ h) (Or.inl ⟨by rfl, ?_⟩) (by assumption) ?_
  · intro w hSw
    (try dsimp only at hSw)
    go_simp
  (try simp only [Act.put, List.getElem_toArray, List.getElem_cons_zero, List.getElem_cons_succ, List.setIfInBounds_toArray, List.set_cons_zero, List.set_cons_succ])
  refine wpAnyH_take (i := 8) (v := .bool true) rfl (by kernel_rfl) (by kernel_rfl) (by kernel_rfl) (fun _ _ _ h => hp _ _ _ _ _ h) (Or.inl ⟨by rfl, ?_⟩) (by assumption) ?_
  · intro w hSw
    (try dsimp only at hSw)
    go_simp
  (try simp only [Act.put, List.getElem_toArray, List.getElem_cons_zero, List.getElem_cons_succ, List.setIfInBounds_toArray, List.set_cons_zero, List.set_cons_succ])
  refine wpAnyH_take (i := 9) (v := .bool true) rfl (by kernel_rfl) (by kernel_rfl) (by kernel_rfl) (fun _ _ _ h => hp _ _ _ _ _ h) (Or.inl ⟨by rfl, ?_⟩) (by assumption) ?_
  · intro w hSw
    (try dsimp only at hSw)
    go_simp
  (try simp only [Act.put, List.getElem_toArray, List.getElem_cons_zero, List.getElem_cons_succ, List.setIfInBounds_toArray, List.set_cons_zero, List.set_cons_succ])
  refine wpAnyH_take (i := 10) (v := .slice (some ⟨b, o, none⟩) n c) rfl (by kernel_rfl) (by kernel_rfl) (by kernel_rfl) (fun _ _ _ h => hp _ _ _ _ _ h) (Or.inl ⟨by rfl, ?_⟩) (by assumption) ?_
  · intro w hSw
    (try dsimp only at hSw)
    go_simp
  (try simp only [Act.put, List.getElem_toArray, List.getElem_cons_zero, List.getElem_cons_succ, List.setIfInBounds_toArray, List.set_cons_zero, List.set_cons_succ])
  refine wpAnyH_take (i := 11) (v := .int .i64 ((i + 1 : Nat) : Int)) rfl (by kernel_rfl) (by kernel_rfl) (by kernel_rfl) (fun _ _ _ h => hp _ _ _ _ _ h) (Or.inl ⟨by rfl, ?_⟩) (by assumption) ?_
  · intro w hSw
    (try dsimp only at hSw)
    go_simp
  (try simp only [Act.put, List.getElem_toArray, List.getElem_cons_zero, List.getElem_cons_succ, List.setIfInBounds_toArray, List.set_cons_zero, List.set_cons_succ])
  refine wpAnyH_take (i := 12) (v := .int .i64 (i : Nat)) rfl (by kernel_rfl) (by kernel_rfl) (by kernel_rfl) (fun _ _ _ h => hp _ _ _ _ _ h) (Or.inl ⟨by rfl, ?_⟩) (by assumption) ?_
  · intro w hSw
    (try dsimp only at hSw)
    (go_simp; first | done | (rw [IntKind.wrap_i64]; omega))
  (try simp only [Act.put, List.getElem_toArray, List.getElem_cons_zero, List.getElem_cons_succ, List.setIfInBounds_toArray, List.set_cons_zero, List.set_cons_succ])
  refine wpAnyH_take (i := 13) (v := .pointer (some ⟨b, o + i, none⟩)) rfl (by kernel_rfl) (by kernel_rfl) (by kernel_rfl) (fun _ _ _ h => hp _ _ _ _ _ h) (Or.inl ⟨by rfl, ?_⟩) (by assumption) ?_
  · intro w hSw
    (try dsimp only at hSw)
    (have hi : (i : Int) < (n : Int) := (by omega); go_simp)
  (try simp only [Act.put, List.getElem_toArray, List.getElem_cons_zero, List.getElem_cons_succ, List.setIfInBounds_toArray, List.set_cons_zero, List.set_cons_succ])
  refine wpAnyH_take (i := 14) (v := .string p) rfl (by kernel_rfl) (by kernel_rfl) (by kernel_rfl) (fun _ _ _ h => hp _ _ _ _ _ h) (Or.inl ⟨by rfl, ?_⟩) (by assumption) ?_
  · intro w hSw
    (try dsimp only at hSw)
    go_simp
  (try simp only [Act.put, List.getElem_toArray, List.getElem_cons_zero, List.getElem_cons_succ, List.setIfInBounds_toArray, List.set_cons_zero, List.set_cons_succ])
  refine wpAnyH_take (i := 15) (v := .slice (some ⟨b, o, none⟩) n c) rfl (by kernel_rfl) (by kernel_rfl) (by kernel_rfl) (fun _ _ _ h => hp _ _ _ _ _ h) (Or.inl ⟨by rfl, ?_⟩) (by assumption) ?_
  · intro w hSw
    (try dsimp only at hSw)
    go_simp
  (try simp only [Act.put, List.getElem_toArray, List.getElem_cons_zero, List.getElem_cons_succ, List.setIfInBounds_toArray, List.set_cons_zero, List.set_cons_succ])
  refine wpAnyH_take (i := 16) (v := .int .i64 ((i + 1 : Nat) : Int)) rfl (by kernel_rfl) (by kernel_rfl) (by kernel_rfl) (fun _ _ _ h => hp _ _ _ _ _ h) (Or.inl ⟨by rfl, ?_⟩) (by assumption) ?_
  · intro w hSw
    (try dsimp only at hSw)
    go_simp
  (try simp only [Act.put, List.getElem_toArray, List.getElem_cons_zero, List.getElem_cons_succ, List.setIfInBounds_toArray, List.set_cons_zero, List.set_cons_succ])
  refine wpAnyH_take (i := 17) (v := .pointer (some ⟨b, o + (i + 1), none⟩)) rfl (by kernel_rfl) (by kernel_rfl) (by kernel_rfl) (fun _ _ _ h => hp _ _ _ _ _ h) (Or.inl ⟨by rfl, ?_⟩) (by assumption) ?_
  · intro w hSw
    (try dsimp only at hSw)
    go_simp
  (try simp only [Act.put, List.getElem_toArray, List.getElem_cons_zero, List.getElem_cons_succ, List.setIfInBounds_toArray, List.set_cons_zero, List.set_cons_succ])
  refine wpAnyH_take (i := 18) (v := .string s) rfl (by kernel_rfl) (by kernel_rfl) (by kernel_rfl) (fun _ _ _ h => hp _ _ _ _ _ h) (Or.inl ⟨by rfl, ?_⟩) (by assumption) ?_
  · intro w hSw
    (try dsimp only at hSw)
    go_simp
  (try simp only [Act.put, List.getElem_toArray, List.getElem_cons_zero, List.getElem_cons_succ, List.setIfInBounds_toArray, List.set_cons_zero, List.set_cons_succ])
  refine wpAnyH_take (i := 19) (v := .bool q) rfl (by kernel_rfl) (by kernel_rfl) (by kernel_rfl) (fun _ _ _ h => hp _ _ _ _ _ h) (Or.inl ⟨by rfl, ?_⟩) (by assumption) ?_
  · intro w hSw
    (try dsimp only at hSw)
    go_simp
  (try simp only [Act.put, List.getElem_toArray, List.getElem_cons_zero, List.getElem_cons_succ, List.setIfInBounds_toArray, List.set_cons_zero, List.set_cons_succ])
  refine wpAnyH_take (i := 20) (v := .bool q) rfl (by kernel_rfl) (by kernel_rfl) (by kernel_rfl) (fun _ _ _ h => hp _ _ _ _ _ h) (Or.inl ⟨by rfl, ?_⟩) (by assumption) ?_
  · intro w hSw
    (try dsimp only at hSw)
    go_simp
  (try simp only [Act.put, List.getElem_toArray, List.getElem_cons_zero, List.getElem_cons_succ, List.setIfInBounds_toArray, List.set_cons_zero, List.set_cons_succ])
  refine wpAnyH_take (i := 21) (v := .bool q) rfl (by kernel_rfl) (by kernel_rfl) (by kernel_rfl) (fun _ _ _ h => hp _ _ _ _ _ h) (Or.inl ⟨by rfl, ?_⟩) (by assumption) ?_
  · intro w hSw
    (try dsimp only at hSw)
    go_simp
  (try simp only [Act.put, List.getElem_toArray, List.getElem_cons_zero, List.getElem_cons_succ, List.setIfInBounds_toArray, List.set_cons_zero, List.set_cons_succ])
  refine wpAnyH_done (by kernel_rfl) ?_ _
  exact h _ _ _ _ _ _ _ _ _ _ _ _ _ _ _ _ _ _ _ _ _ _ hB1
set_option maxRecDepth 100000 in
set_option maxHeartbeats 1000000 in
theorem l7Names_any (ss : List ByteArray) (a : Option Addr) (c : Nat) (w : World) (hin : SIn w ss a) (hl : ss.length ≤ c) (hc : c ≤ maxLen) :
    Calls Try.prog 80 #[.slice a ss.length c] w fun r w' => SaysT (nmAsc ss ss.length) r ∧ Below w.heap.size w w' := by
  unfold maxLen at hc
  obtain ⟨N, hN⟩ : ∃ N, ss.length = N := ⟨_, rfl⟩
  have HN : Hid (ss.length = N) := hN
  rw [hN] at hl ⊢
  clear hN
  go_enter Try.func80, Try.ntmps80
  go_wp2_with fail
  go_loopw [3] (fun i wr => ∃ (j : Nat), i = .int .i64 j ∧ j ≤ N ∧ nmAsc ss j ∧ Below w.heap.size w wr) (fun i _ => N - (intOf i).toNat)
  case atStart => exact ⟨0, rfl, Nat.zero_le _, nmAsc_zero ss, Below.refl _ _⟩
  case round =>
    obtain ⟨j, rfl, hj, hP, hb⟩ := hrel
    have HP : Hid (nmAsc ss j) := hP
    clear hP
    by_cases hjn : j < N
    · have hlt : (j : Int) < (N : Int) := by omega
      obtain ⟨s, hs⟩ : ∃ s, ss[j]? = some s := ⟨ss[j]'(by rw [HN.out]; exact hjn), List.getElem?_eq_getElem _⟩
      rcases hin with hin | ⟨b, o, rfl, hF⟩
      · rw [hin] at hs; simp at hs
      obtain ⟨h1, hsz⟩ := (hF.grow hb).at hs
      have HS : Hid (ss[j]? = some s) := hs
      clear hs
      cases hnm : Qm.name s
      · have HR : Hid (¬ nmAsc ss N) := nmAsc_bad hjn HS.out hnm
        clear hF
        go_wp2_with fail
        refine nmA hlt h1 hsz hnm (fun _ d _ _ _ h => by cases d <;> exact h) ?_
        intro ws v10 v11 v12 v13 v14 v15 v16 v17 v18 v19 v20 v21 v22 v23 v24 v25 v26 v27 v28 v29 v30 hb1
        have hb2 := hb.trans (hb1.mono hb.size)
        clear h1 hb1 hb
        go_wp2_with fail
        go_ret
        exact ⟨⟨false, rfl, fun h => (by cases h), fun h => absurd h HR.out⟩, hb2⟩
      · cases j with
        | zero =>
          clear hF
          go_wp2_with fail
          refine nmB (by omega) (show wr.cell? ⟨b, o, none⟩ = some (.string s) from h1) hsz hnm (fun _ d _ _ _ h => by cases d <;> exact h) ?_
          intro ws v10 v11 v12 v13 v14 v15 v16 v17 v18 v19 v20 v21 v22 v23 v24 v25 v26 v27 v28 v29 v30 hb1
          have hb2 := hb.trans (hb1.mono hb.size)
          clear h1 hb1 hb
          go_wp2_with fail
          go_round
          case rel => exact ⟨1, by go_num, by omega, nmAsc_first HS.out hnm, hb2⟩
          case measure => simp [intOf]; omega
        | succ i =>
          obtain ⟨p, hp⟩ : ∃ p, ss[i]? = some p := ⟨ss[i]'(by rw [HN.out]; omega), List.getElem?_eq_getElem _⟩
          have h2 := ((hF.grow hb).at hp).1
          have HPr : Hid (ss[i]? = some p) := hp
          clear hF hp
          have hlt' : (i : Int) + 1 < (N : Int) := by omega
          cases hbl : Op.bytesLess p.toList s.toList
          · have HR : Hid (¬ nmAsc ss N) := nmAsc_down hjn HS.out HPr.out hbl
            go_wp2_with fail
            refine nmC (i := i) hlt' h1 hsz hnm (by omega) h2 (q := true) (by rw [hbl]; rfl) (fun _ d _ _ _ h => by cases d <;> exact h) ?_
            intro ws v10 v11 v12 v13 v14 v15 v16 v17 v18 v19 v20 v21 v22 v23 v24 v25 v26 v27 v28 v29 v30 hb1
            have hb2 := hb.trans (hb1.mono hb.size)
            clear h1 h2 hb1 hb
            go_wp2_with fail
            go_ret
            exact ⟨⟨false, rfl, fun h => (by cases h), fun h => absurd h HR.out⟩, hb2⟩
          · go_wp2_with fail
            refine nmC (i := i) hlt' h1 hsz hnm (by omega) h2 (q := false) (by rw [hbl]; rfl) (fun _ d _ _ _ h => by cases d <;> exact h) ?_
            intro ws v10 v11 v12 v13 v14 v15 v16 v17 v18 v19 v20 v21 v22 v23 v24 v25 v26 v27 v28 v29 v30 hb1
            have hb2 := hb.trans (hb1.mono hb.size)
            clear h1 h2 hb1 hb
            go_wp2_with fail
            go_round
            case rel => exact ⟨i + 1 + 1, by go_num, by omega, nmAsc_next HP.out HS.out HPr.out hnm hbl, hb2⟩
            case measure => simp [intOf]; omega
    · have e : j = N := by omega
      subst e
      clear hin
      go_wp2_with fail
      go_ret
      exact ⟨⟨true, rfl, fun _ => HP.out, fun _ => rfl⟩, hb⟩
end Go.Proofs.Ytalncebnahlmdaa
/- Values that are ok: what the program asks of an object. -/
namespace Go.Proofs.Ytalncebnahlmdaa
open Go.RowKit
set_option maxRecDepth 100000 in
set_option maxHeartbeats 1000000 in
theorem objFits_any (ss : List ByteArray) (na : Option Addr) (nc : Nat) (a : Option Addr) (n c : Nat) (w : World) (hin : SIn w ss na) (hl : ss.length ≤ nc) (hc : nc ≤ maxLen) :
    Calls Try.prog 148 #[.agg #[.slice na ss.length nc, .slice a n c]] w fun r w' => SaysT (ss.length = n ∧ nmAsc ss ss.length) r ∧ Below w.heap.size w w' := by
  unfold maxLen at hc
  obtain ⟨N, hN⟩ : ∃ N, ss.length = N := ⟨_, rfl⟩
  have HN : Hid (ss.length = N) := hN
  rw [hN] at hl ⊢
  clear hN
  have hB0 := (Below.refl _ w).alloc (Nat.le_refl _) (.cells #[.slice na N nc, .slice a n c] 110)
  have R0 := Row.new w [.slice na N nc, .slice a n c] 110
  by_cases hne : N = n
  · subst hne
    go_enter Try.func148, Try.ntmps148
    go_wp2_with fail
    obtain ⟨W0, hW0⟩ : ∃ W0, w.alloc (.cells #[.slice na N nc, .slice a N c] 110) = W0 := ⟨_, rfl⟩
    rw [show w.alloc (.cells [.slice na N nc, .slice a N c].toArray 110) = W0 from hW0] at R0
    rw [hW0] at hB0
    have HBx : Hid (∀ W, Below W0.heap.size W0 W → W.cell? ⟨w.heap.size, 0, none⟩ = some (.slice na N nc)) := fun W h => (R0.below h R0.lt 0 _ rfl).1
    clear R0
    go_loopw [15] (fun i wr => ∃ (j : Nat), i = .int .i64 j ∧ j ≤ N ∧ nmAsc ss j ∧ Below W0.heap.size W0 wr) (fun i _ => N - (intOf i).toNat)
    case atStart => exact ⟨0, rfl, Nat.zero_le _, nmAsc_zero ss, by rw [hW0]; exact Below.refl _ _⟩
    case round =>
      obtain ⟨j, rfl, hj, hP, hbz⟩ := hrel
      have HP : Hid (nmAsc ss j) := hP
      clear hP hW0
      have hb := hB0.trans (hbz.mono hB0.size)
      have x0 := HBx.out _ hbz
      by_cases hjn : j < N
      · have hlt : (j : Int) < (N : Int) := by omega
        obtain ⟨s, hs⟩ : ∃ s, ss[j]? = some s := ⟨ss[j]'(by rw [HN.out]; exact hjn), List.getElem?_eq_getElem _⟩
        rcases hin with hin | ⟨b, o, rfl, hF⟩
        · rw [hin] at hs; simp at hs
        obtain ⟨h1, hsz⟩ := (hF.grow hb).at hs
        have HS : Hid (ss[j]? = some s) := hs
        clear hs
        have HNm := iNameOk_any s wr hsz
        cases hnm : Qm.name s
        · have HR : Hid (¬ (N = N ∧ nmAsc ss N)) := fun h => nmAsc_bad hjn HS.out hnm h.2
          rw [hnm] at HNm
          clear hF
          go_wp2_with (go_at_call 150; refine HNm.mono ?_; rintro e w' ⟨rfl, rfl⟩)
          go_ret
          exact ⟨⟨false, rfl, fun h => (by cases h), fun h => absurd h HR.out⟩, hb⟩
        · rw [hnm] at HNm
          cases j with
          | zero =>
            have h1' : wr.cell? ⟨b, o, none⟩ = some (.string s) := h1
            have hN0 : ¬ N = 0 := by omega
            clear hF h1
            go_wp2_with (go_at_call 150; refine HNm.mono ?_; rintro e w' ⟨rfl, rfl⟩)
            go_round
            case rel => exact ⟨1, by go_num, by omega, nmAsc_first HS.out hnm, hbz⟩
            case measure => simp [intOf]; omega
          | succ i =>
            obtain ⟨p, hp⟩ : ∃ p, ss[i]? = some p := ⟨ss[i]'(by rw [HN.out]; omega), List.getElem?_eq_getElem _⟩
            have h2 := ((hF.grow hb).at hp).1
            have HPr : Hid (ss[i]? = some p) := hp
            clear hF hp
            have hlt' : (i : Int) + 1 < (N : Int) := by omega
            have hlt2 : (i : Int) < (N : Int) := by omega
            have hj0 : ¬ (i : Int) + 1 < 0 := by omega
            have hj1 : (0 : Int) < (i : Int) + 1 := by omega
            cases hbl : Op.bytesLess p.toList s.toList
            · have HR : Hid (¬ (N = N ∧ nmAsc ss N)) := fun h => nmAsc_down hjn HS.out HPr.out hbl h.2
              go_wp2_with (go_at_call 150; refine HNm.mono ?_; rintro e w' ⟨rfl, rfl⟩)
              go_ret
              exact ⟨⟨false, rfl, fun h => (by cases h), fun h => absurd h HR.out⟩, hb⟩
            · go_wp2_with (go_at_call 150; refine HNm.mono ?_; rintro e w' ⟨rfl, rfl⟩)
              go_round
              case rel => exact ⟨i + 1 + 1, by go_num, by omega, nmAsc_next HP.out HS.out HPr.out hnm hbl, hbz⟩
              case measure => simp [intOf]; omega
      · have e : j = N := by omega
        subst e
        clear hin
        go_wp2_with fail
        go_ret
        exact ⟨⟨true, rfl, fun _ => ⟨trivial, HP.out⟩, fun _ => rfl⟩, hb⟩
  · have hne' : ¬ (N : Int) = (n : Int) := by omega
    clear hin R0
    go_enter Try.func148, Try.ntmps148
    go_wp2_with fail
    go_ret
    exact ⟨⟨false, rfl, fun h => (by cases h), fun h => absurd h.1 hne⟩, hB0⟩
end Go.Proofs.Ytalncebnahlmdaa
/- Maps whose keys are places of lists: an entry found or made, and written by its stamp ('m[k]++'). -/
namespace Go.Proofs.Ytalncebnahlmdaa
open Go.RowKit
section
variable {K : Type} [DecidableEq K] {P : Program} {kt : TypeId} (Q : Keys K P kt)
/-- the stamps of the entries are below the clock, no two alike -/
def Stamps (es : List MapEntry) (clock : Nat) : Prop := (∀ e ∈ es, e.born < clock) ∧ es.Pairwise (fun a b => a.born ≠ b.born)
/-- block b is the map of these keys and values, rightly stamped -/
def Keys.Has (w : World) (b : Nat) (L : List (K × Value)) : Prop := ∃ es clock, w.heap[b]? = some (.map es clock) ∧ es.toList.map (fun e => (e.key, e.val)) = L.map (fun p => (Q.kv p.1, p.2)) ∧ Stamps es.toList clock
theorem Keys.Has.is {w : World} {b : Nat} {L : List (K × Value)} (h : Q.Has w b L) : Q.Is w b L := by
  obtain ⟨es, clock, h1, h2, _⟩ := h
  exact ⟨es, clock, h1, h2⟩
theorem Keys.Has.same {w w' : World} {b : Nat} {L : List (K × Value)} (h : Q.Has w b L) (hb : w'.heap[b]? = w.heap[b]?) : Q.Has w' b L := by
  obtain ⟨es, clock, h1, h2⟩ := h
  exact ⟨es, clock, hb.trans h1, h2⟩
theorem Keys.has_new (w' : World) (b : Nat) (h : w'.heap[b]? = some (.map #[] 0)) : Q.Has w' b [] := ⟨#[], 0, h, rfl, fun e he => absurd he (by simp), by simp⟩
/-- the entry of a key, by its stamp -/
def Keys.Stamp (w : World) (b : Nat) (x : K) (s : Nat) (L : List (K × Value)) : Prop := ∃ es clock n e, w.heap[b]? = some (.map es clock) ∧ es.toList.map (fun e => (e.key, e.val)) = L.map (fun p => (Q.kv p.1, p.2)) ∧ Stamps es.toList clock ∧ seekL x L 0 = some (n, e.val) ∧ es[n]? = some e ∧ e.born = s
theorem stamp_find {es : Array MapEntry} {clock n : Nat} {e : MapEntry} (hs : Stamps es.toList clock) (he : es[n]? = some e) : es.findIdx? (fun x => (x.born : Int) == (e.born : Int)) = some n := by
  obtain ⟨hn, hen⟩ := Array.getElem?_eq_some_iff.1 he
  rw [Array.findIdx?_eq_some_iff_getElem]
  refine ⟨hn, by rw [hen]; simp, fun j hj => ?_⟩
  have hp := List.pairwise_iff_getElem.1 hs.2 j n (by simpa using Nat.lt_trans hj hn) (by simpa using hn) hj
  simp only [Array.getElem_toList] at hp
  rw [hen] at hp
  simp
  omega
theorem map_modify {es : Array MapEntry} {L : List (K × Value)} (he : es.toList.map (fun e => (e.key, e.val)) = L.map (fun p => (Q.kv p.1, p.2))) {n : Nat} {x : K} {v : Value} {f : MapEntry → MapEntry} {e : MapEntry} (hen : es[n]? = some e) (hf : ((f e).key, (f e).val) = (Q.kv x, v)) (hl : n < L.length) :
    (es.modify n f).toList.map (fun e => (e.key, e.val)) = (L.set n (x, v)).map (fun p => (Q.kv p.1, p.2)) := by
  apply List.ext_getElem?
  intro i
  have hi : (es.toList.map (fun e => (e.key, e.val)))[i]? = (L.map (fun p => (Q.kv p.1, p.2)))[i]? := by rw [he]
  rw [List.getElem?_map, List.getElem?_map, Array.getElem?_toList] at hi
  rw [List.getElem?_map, List.getElem?_map, Array.getElem?_toList, Array.getElem?_modify, List.getElem?_set]
  by_cases hij : n = i
  · subst hij
    rw [if_pos rfl, if_pos rfl, if_pos hl, hen]
    exact congrArg some hf
  · rw [if_neg hij, if_neg hij]; exact hi
theorem stamps_modify {es : Array MapEntry} {clock n : Nat} {f : MapEntry → MapEntry} (hs : Stamps es.toList clock) (hf : ∀ e, (f e).born = e.born) : Stamps (es.modify n f).toList clock := by
  have hb : (es.modify n f).toList.map (·.born) = es.toList.map (·.born) := by
    apply List.ext_getElem?
    intro i
    rw [List.getElem?_map, List.getElem?_map, Array.getElem?_toList, Array.getElem?_toList, Array.getElem?_modify]
    by_cases hij : n = i
    · rw [if_pos hij]; cases es[i]? with
      | none => rfl
      | some e => exact congrArg some (hf e)
    · rw [if_neg hij]
  refine ⟨fun e he => ?_, ?_⟩
  · have : e.born ∈ (es.modify n f).toList.map (·.born) := List.mem_map.2 ⟨e, he, rfl⟩
    rw [hb] at this
    obtain ⟨e', he', h⟩ := List.mem_map.1 this
    rw [← h]; exact hs.1 e' he'
  · have h1 : (es.toList.map (·.born)).Pairwise (· ≠ ·) := List.pairwise_map.2 hs.2
    rw [← hb] at h1
    exact List.pairwise_map.1 h1
theorem seekL_append {x : K} {z : Value} : ∀ {L : List (K × Value)} {i : Nat}, seekL x L i = none → seekL x (L ++ [(x, z)]) i = some (i + L.length, z) := by
  intro L
  induction L with
  | nil => intro i _; show (if x = x then some (i, z) else _) = _; rw [if_pos rfl]; rfl
  | cons p t ih =>
    obtain ⟨k, u⟩ := p
    intro i h
    unfold seekL at h
    by_cases hk : x = k
    · rw [if_pos hk] at h; cases h
    · rw [if_neg hk] at h
      show (if x = k then some (i, u) else seekL x (t ++ [(x, z)]) (i + 1)) = _
      rw [if_neg hk, ih h, List.length_cons]
      congr 2
      omega
theorem seekL_set {x : K} {v : Value} : ∀ {L : List (K × Value)} {i n : Nat} {u : Value}, seekL x L i = some (i + n, u) → seekL x (L.set n (x, v)) i = some (i + n, v) := by
  intro L
  induction L with
  | nil => intro i n u h; cases h
  | cons p t ih =>
    obtain ⟨k, u'⟩ := p
    intro i n u h
    unfold seekL at h
    by_cases hk : x = k
    · rw [if_pos hk] at h
      simp only [Option.some.injEq, Prod.mk.injEq] at h
      have h0 : n = 0 := by omega
      subst h0
      show (if x = x then some (i, v) else _) = _
      rw [if_pos rfl]; rfl
    · rw [if_neg hk] at h
      obtain ⟨n', _, e1, _⟩ := seekL_some h
      obtain ⟨n2, rfl⟩ : ∃ n2, n = n2 + 1 := ⟨n - 1, by omega⟩
      show (if x = k then some (i, u') else seekL x (t.set n2 (x, v)) (i + 1)) = _
      rw [if_neg hk, show i + (n2 + 1) = i + 1 + n2 by omega]
      exact ih (by rw [h, show i + (n2 + 1) = i + 1 + n2 by omega])
theorem seekL_at {x : K} : ∀ {L : List (K × Value)} {i j : Nat} {v u : Value}, seekL x L i = some (i + j, v) → L[j]? = some (x, u) → u = v := by
  intro L
  induction L with
  | nil => intro i j v u h; cases h
  | cons p t ih =>
    obtain ⟨k, u'⟩ := p
    intro i j v u h h2
    unfold seekL at h
    by_cases hk : x = k
    · rw [if_pos hk] at h
      simp only [Option.some.injEq, Prod.mk.injEq] at h
      have h0 : j = 0 := by omega
      subst h0
      simp at h2
      rw [← h2.2]; exact h.2
    · rw [if_neg hk] at h
      obtain ⟨n', _, e1, _⟩ := seekL_some h
      obtain ⟨j2, rfl⟩ : ∃ j2, j = j2 + 1 := ⟨j - 1, by omega⟩
      exact ih (i := i + 1) (by rw [h, show i + (j2 + 1) = i + 1 + j2 by omega]) (by simpa using h2)
theorem Keys.entry {mty et : TypeId} (hm : P.underlying mty = some (.map kt et)) {w : World} {b : Nat} {L : List (K × Value)} (x : K) (hx : Q.ok w x) (hok : ∀ p ∈ L, Q.ok w p.1) (hb : Q.Has w b L) {z : Value} (hz : (zeroValue et).run P w = .ok z w) :
    ∃ w' s, (Instr.mapEntry mty (.map (some b)) (Q.kv x)).run P w = .ok (.tuple #[(getL x L).getD z, .int .i64 (s : Nat)]) w' ∧ Q.Stamp w' b x s (putL x ((getL x L).getD z) L) ∧ w.grownBy w' (some b) ∧ w'.heap.size = w.heap.size := by
  obtain ⟨es, clock, hh, he, hst⟩ := hb
  have hf := Q.find w x hx L es.toList hok he
  have hg := seekL_get x L 0
  cases h : seekL x L 0 with
  | none =>
    rw [h] at hf hg
    have hg' : getL x L = none := hg.symm
    rw [hg']
    refine ⟨{ w with heap := w.heap.setIfInBounds b (.map (es.push { key := Q.kv x, val := z, born := clock }) (clock + 1)) }, clock, by simp [Instr.mapEntry, run_underlying hm, MapKept.run_getObj_map hh, Q.check, hf, hz, MapKept.run_setObj_map _ hh, Result.andThen, goInt], ?_, ⟨rfl, rfl, rfl, by simp, fun i _ hi => (MapKept.heap_set hh).2 i (fun e => hi (by rw [e]))⟩, by simp⟩
    refine ⟨es.push { key := Q.kv x, val := z, born := clock }, clock + 1, es.size, { key := Q.kv x, val := z, born := clock }, (MapKept.heap_set hh).1, ?_, ?_, ?_, by simp, rfl⟩
    · rw [seekL_none h, Array.toList_push, List.map_append, he, List.map_append]; rfl
    · refine ⟨fun e hee => ?_, ?_⟩
      · rw [Array.toList_push, List.mem_append] at hee
        rcases hee with hee | hee
        · exact Nat.lt_succ_of_lt (hst.1 e hee)
        · rw [List.mem_singleton] at hee; subst hee; exact Nat.lt_succ_self _
      · rw [Array.toList_push, List.pairwise_append]
        refine ⟨hst.2, List.pairwise_singleton _ _, fun a ha c hc => ?_⟩
        rw [List.mem_singleton] at hc; subst hc
        exact Nat.ne_of_lt (hst.1 a ha)
    · show seekL x (putL x z L) 0 = some (es.size, z)
      rw [seekL_none h]
      have hlen : es.size = L.length := by have := congrArg List.length he; simpa using this
      rw [hlen]
      rw [seekL_append h, Nat.zero_add]
  | some p =>
    obtain ⟨j, u⟩ := p
    rw [h] at hf hg
    have hg' : getL x L = some u := hg.symm
    rw [hg']
    obtain ⟨n, u', e1, e2, e3⟩ := seekL_some h
    rw [Nat.zero_add] at e1
    subst e1
    have hl : j < L.length := (List.getElem?_eq_some_iff.1 e2).1
    have hlen : es.size = L.length := by have := congrArg List.length he; simpa using this
    obtain ⟨en, hen⟩ : ∃ en, es[j]? = some en := ⟨es[j]'(by omega), Array.getElem?_eq_getElem (by omega)⟩
    have hpair : (en.key, en.val) = (Q.kv x, u') := by
      have h1 : (es.toList.map (fun e => (e.key, e.val)))[j]? = some (Q.kv x, u') := by rw [he, List.getElem?_map, e2]; rfl
      rw [List.getElem?_map, Array.getElem?_toList, hen] at h1
      exact Option.some.inj h1
    simp only [Prod.mk.injEq] at hpair
    have huu : u' = u := by
      exact seekL_at (i := 0) (by rw [Nat.zero_add]; exact h) e2
    subst huu
    have hks : (Instr.keyThatStays en.key (Q.kv x)).run P w = .ok (Q.kv x) w := by simp [Instr.keyThatStays, hpair.1, Q.bits]
    refine ⟨{ w with heap := w.heap.setIfInBounds b (.map (es.modify j fun e => { e with key := Q.kv x }) clock) }, en.born, by simp [Instr.mapEntry, run_underlying hm, MapKept.run_getObj_map hh, Q.check, hf, hen, hks, MapKept.run_setObj_map _ hh, Result.andThen, goInt], ?_, ⟨rfl, rfl, rfl, by simp, fun i _ hi => (MapKept.heap_set hh).2 i (fun e => hi (by rw [e]))⟩, by simp⟩
    refine ⟨es.modify j fun e => { e with key := Q.kv x }, clock, j, { en with key := Q.kv x }, (MapKept.heap_set hh).1, ?_, stamps_modify hst (fun e => rfl), ?_, ?_, rfl⟩
    · show _ = ((putL x u' L)).map _
      rw [e3]
      exact map_modify Q he hen (by rw [hpair.2]) hl
    · show seekL x (putL x u' L) 0 = some (j, en.val)
      rw [e3, hpair.2]
      have h2 : seekL x L 0 = some (0 + j, u') := by rw [Nat.zero_add]; exact h
      rw [seekL_set h2, Nat.zero_add]
    · rw [Array.getElem?_modify, if_pos rfl, hen]; rfl
/-- the entry is written -/
theorem Keys.store {mty : TypeId} {w : World} {b : Nat} {L : List (K × Value)} {x : K} {s : Nat} (h : Q.Stamp w b x s L) (v : Value) :
    ∃ w', (Instr.entryStore mty (.map (some b)) (.int .i64 (s : Nat)) v).run P w = .ok () w' ∧ Q.Has w' b (putL x v L) ∧ w.grownBy w' (some b) ∧ w'.heap.size = w.heap.size := by
  obtain ⟨es, clock, n, e, hh, he, hst, hsk, hen, hbo⟩ := h
  have hfi := stamp_find hst hen
  rw [hbo] at hfi
  obtain ⟨n', u', e1, e2, e3⟩ := seekL_some hsk
  rw [Nat.zero_add] at e1
  subst e1
  have hl : n < L.length := (List.getElem?_eq_some_iff.1 e2).1
  refine ⟨{ w with heap := w.heap.setIfInBounds b (.map (es.modify n fun e => { e with val := v }) clock) }, by simp [Instr.entryStore, MapKept.run_getObj_map hh, asInt, asIntOf, hfi, MapKept.run_setObj_map _ hh, Result.andThen], ?_, ⟨rfl, rfl, rfl, by simp, fun i _ hi => (MapKept.heap_set hh).2 i (fun e => hi (by rw [e]))⟩, by simp⟩
  refine ⟨es.modify n fun e => { e with val := v }, clock, (MapKept.heap_set hh).1, ?_, stamps_modify hst (fun e => rfl)⟩
  rw [e3]
  have hpair : (e.key, e.val) = (Q.kv x, u') := by
    have h1 : (es.toList.map (fun e => (e.key, e.val)))[n]? = some (Q.kv x, u') := by rw [he, List.getElem?_map, e2]; rfl
    rw [List.getElem?_map, Array.getElem?_toList, hen] at h1
    exact Option.some.inj h1
  simp only [Prod.mk.injEq] at hpair
  exact map_modify Q he hen (by rw [hpair.1]) hl
end
end Go.Proofs.Ytalncebnahlmdaa
/- Two trees that are the same, by the program: the row of pairs that are to be done. -/
namespace Go.Proofs.Ytalncebnahlmdaa
open Go.RowKit
end Go.Proofs.Ytalncebnahlmdaa
/- Two trees that are the same, by the program: keys that can be held against each other, and a measure that is read off a relation. -/
namespace Go.Proofs.Ytalncebnahlmdaa
open Go.RowKit
theorem getL_mem {K : Type} [DecidableEq K] {L : List (K × Value)} {q : K × Value} (h : q ∈ L) : ∃ v, getL q.1 L = some v := by
  induction L with
  | nil => cases h
  | cons p t ih =>
    obtain ⟨k, u⟩ := p
    unfold getL
    by_cases e : q.1 = k
    · exact ⟨u, by rw [if_pos e]⟩
    · rw [if_neg e]
      rcases List.mem_cons.1 h with h | h
      · subst h; exact absurd rfl e
      · exact ih h
/-- all lists below lie in cells that are not frozen -/
def Fo.Cl (w : World) : Fo → Prop
  | .nil => True
  | .cons _ _ _ _ a _ kids next => PlOk w (plOf a kids.len) ∧ kids.Cl w ∧ next.Cl w
def It.Good (w : World) (x : It) : Prop := PlOk w x.pl ∧ x.F.Cl w
theorem Fo.Cl.at {w : World} : ∀ {F : Fo}, F.Cl w → ∀ {i : Nat}, i < F.len → (F.itAt i).Good w := by
  intro F
  induction F with
  | nil => intro _ i hi; exact absurd hi (Nat.not_lt_zero _)
  | cons k t m e a c kids next _ ih =>
    rintro ⟨h1, h2, h3⟩ i hi
    cases i with
    | zero => exact ⟨h1, h2⟩
    | succ i => exact ih h3 (Nat.lt_of_succ_lt_succ hi)
theorem PlOk.below {w w' : World} {p : Pl} (h : PlOk w p) (hb : Below w.heap.size w w') : PlOk w' p := by
  rcases h with h | ⟨a, cs, t, h1, h2⟩
  · exact .inl h
  · exact .inr ⟨a, cs, t, h1, (hb.block _ (Array.getElem?_eq_some_iff.1 h2).1).trans h2⟩
theorem Loop.count {w : World} {top : It2} {T : Nat} {S D : List It2} {L : List (Pl2 × Value)} (h : Loop w top T S L D) (x : Pl2) : ∃ n0 : Nat, (getL x L).getD (.int .i64 0) = .int .i64 n0 ∧ n0 ≤ T ∧ (n0 = 0 ∨ (1 ≤ n0 ∧ getL x L = some (.int .i64 n0))) := by
  cases hx : getL x L with
  | none => exact ⟨0, rfl, Nat.zero_le _, .inl rfl⟩
  | some v =>
    obtain ⟨n, rfl, h1, h2⟩ := h.vals x v hx
    have := h.room
    exact ⟨n, rfl, by omega, .inr ⟨h1, rfl⟩⟩
theorem putL_putL {K : Type} [DecidableEq K] (x : K) (u v : Value) : ∀ (L : List (K × Value)), putL x v (putL x u L) = putL x v L := by
  intro L
  induction L with
  | nil => show (if x = x then _ else _) = _; rw [if_pos rfl]; rfl
  | cons p t ih =>
    obtain ⟨k, z⟩ := p
    by_cases hk : x = k
    · subst hk
      show putL x v (if x = x then (x, u) :: t else (x, z) :: putL x u t) = (if x = x then (x, v) :: t else (x, z) :: putL x v t)
      rw [if_pos rfl, if_pos rfl]
      show (if x = x then (x, v) :: t else (x, u) :: putL x v t) = _
      rw [if_pos rfl]
    · show putL x v (if x = k then (x, u) :: t else (k, z) :: putL x u t) = (if x = k then (x, v) :: t else (k, z) :: putL x v t)
      rw [if_neg hk, if_neg hk]
      show (if x = k then (x, v) :: putL x u t else (k, z) :: putL x v (putL x u t)) = _
      rw [if_neg hk, ih]
theorem grown_cell {w w' : World} {r : Option Nat} (h : w.grownBy w' r) {b : Nat} (o : Nat) (hb : b < w.heap.size) (hn : some b ≠ r) : w'.cell? ⟨b, o, none⟩ = w.cell? ⟨b, o, none⟩ := World.cell?_of_block (a := ⟨b, o, none⟩) (h.block b hb hn)
theorem exists_least {P : Nat → Prop} (h : ∃ n, P n) : ∃ n, P n ∧ ∀ m, P m → n ≤ m := by
  obtain ⟨n, hn⟩ := h
  induction n using Nat.strongRecOn with
  | ind n ih =>
    by_cases hm : ∃ m, m < n ∧ P m
    · obtain ⟨m, h1, h2⟩ := hm; exact ih m h1 h2
    · exact ⟨n, hn, fun m hP => Nat.le_of_not_lt fun h => hm ⟨m, h, hP⟩⟩
open Classical in
/-- the least number of which something holds -/
noncomputable def least (P : Nat → Prop) : Nat := if h : ∃ n, P n then Classical.choose (exists_least h) else 0
theorem least_spec {P : Nat → Prop} (h : ∃ n, P n) : P (least P) := by
  unfold least
  rw [dif_pos h]
  exact (Classical.choose_spec (exists_least h)).1
theorem least_le {P : Nat → Prop} {n : Nat} (h : P n) : least P ≤ n := by
  unfold least
  rw [dif_pos ⟨n, h⟩]
  exact (Classical.choose_spec (exists_least ⟨n, h⟩)).2 n h
end Go.Proofs.Ytalncebnahlmdaa
/- Two trees that are the same, by the program: the region that counts a pair of lists. -/
namespace Go.Proofs.Ytalncebnahlmdaa
open Go.RowKit
/-- four cells of a block -/
abbrev FourC (b : Nat) (v0 v1 v2 v3 : Value) (w : World) : Prop := w.cell? ⟨b, 0, none⟩ = some v0 ∧ w.cell? ⟨b, 1, none⟩ = some v1 ∧ w.cell? ⟨b, 2, none⟩ = some v2 ∧ w.cell? ⟨b, 3, none⟩ = some v3
theorem FourC.grown {w w' : World} {r : Option Nat} (h : w.grownBy w' r) {b : Nat} {v0 v1 v2 v3 : Value} (hn : some b ≠ r) (f : FourC b v0 v1 v2 v3 w) : FourC b v0 v1 v2 v3 w' := by
  have hb : b < w.heap.size := World.block_lt_of_cell? _ _ f.1
  exact ⟨(grown_cell h 0 hb hn).trans f.1, (grown_cell h 1 hb hn).trans f.2.1, (grown_cell h 2 hb hn).trans f.2.2.1, (grown_cell h 3 hb hn).trans f.2.2.2⟩
theorem PlOk.grown {w w' : World} {p : Pl} {mb clock : Nat} {es : Array MapEntry} (h : PlOk w p) (hg : w.grownBy w' (some mb)) (hm : w.heap[mb]? = some (.map es clock)) : PlOk w' p := by
  rcases h with h | ⟨a, cs, t, h1, h2⟩
  · exact .inl h
  · refine .inr ⟨a, cs, t, h1, (hg.block _ (Array.getElem?_eq_some_iff.1 h2).1 (fun e => ?_)).trans h2⟩
    have e' := Option.some.inj e
    rw [e', hm] at h2
    cases h2
theorem grown_trans {a b c : World} {r : Option Nat} (h : a.grownBy b r) (k : b.grownBy c r) : a.grownBy c r := ⟨k.os.trans h.os, k.tape.trans h.tape, k.output.trans h.output, Nat.le_trans h.size k.size, fun i hi hn => (k.block i (Nat.lt_of_lt_of_le hi h.size) hn).trans (h.block i hi hn)⟩
end Go.Proofs.Ytalncebnahlmdaa
/- Two values that are the same, by the program: keys that are places of lists of values; heads that are the same. -/
namespace Go.Proofs.Ytalncebnahlmdaa
open Go.RowKit
theorem eq_ptrV (w : World) (d : Nat) (x y : Option Addr) (hx : PlOk w (x, 0)) (hy : PlOk w (y, 0)) :
    (Op.equalIn (d + 1) 82 (.pointer x) (.pointer y)).run Try.prog w = .ok (decide (x = y)) w := by
  cases x with
  | none => cases y <;> simp [Op.equalIn, run_underlying Try.underlying82]
  | some a =>
    cases y with
    | none => simp [Op.equalIn, run_underlying Try.underlying82]
    | some b =>
      rcases hx with hx | ⟨a', ca, ta, hx, ha⟩
      · cases hx
      cases hx
      rcases hy with hy | ⟨b', cb, tb, hy, hb⟩
      · cases hy
      cases hy
      obtain ⟨i, hi, hzz⟩ := Option.map_eq_some_iff.1 valInfo
      simp only [Prod.mk.injEq] at hzz
      have hs : i.size ≠ 0 := by rw [hzz.2.1]; decide
      by_cases hab : a = b
      · subst hab
        simp [Op.equalIn, run_underlying Try.underlying82, sizeOf, typeInfo, hi, run_sameAddr_same]
      · simp [Op.equalIn, run_underlying Try.underlying82, sizeOf, typeInfo, hi, hs, run_sameAddr_other w hab ha hb, hab]
set_option maxRecDepth 100000 in
theorem eq_place2V (w : World) (d : Nat) (p q : Pl2) (hp : PlOk w p.1 ∧ PlOk w p.2) (hq : PlOk w q.1 ∧ PlOk w q.2) :
    (Op.equalIn (d + 3) 93 (pl2V p) (pl2V q)).run Try.prog w = .ok (decide (p = q)) w := by
  obtain ⟨⟨x, n⟩, y, m⟩ := p
  obtain ⟨⟨x', n'⟩, y', m'⟩ := q
  have h1 := eq_ptrV w d x x' hp.1 hq.1
  have h2 := eq_ptrV w d y y' hp.2 hq.2
  unfold pl2V
  simp [go_sem, h1, h2]
  by_cases e1 : x = x' <;> by_cases e2 : n = n' <;> by_cases e3 : y = y' <;> by_cases e4 : m = m' <;> simp [e1, e2, e3, e4, Int.ofNat_inj]
theorem check_place2V (w : World) (em : Bool) (x : Pl2) : (Instr.checkKey em 10000 93 (pl2V x)).run Try.prog w = .ok () w := by kernel_rfl
/-- pairs of them -/
def pl2KeysV : Keys Pl2 Try.prog 93 where
  kv := pl2V
  ok := fun w p => PlOk w p.1 ∧ PlOk w p.2
  wide := by kernel_rfl
  eq := fun w x y hx hy => eq_place2V w 9997 x y hx hy
  check := check_place2V
  bits := bits_place2 9999
theorem Vo.from_inj {w : World} : ∀ (F G : Vo) (b o : Nat), F.From w b o → G.From w b o → F.len = G.len → F = G := by
  intro F
  induction F with
  | nil => intro G b o _ _ h; cases G with
    | nil => rfl
    | cons => exact absurd h.symm (Nat.succ_ne_zero _)
  | cons h a c kids next ih1 ih2 =>
    intro G b o hF hG hl
    cases G with
    | nil => exact absurd hl (Nat.succ_ne_zero _)
    | cons h' a' c' kids' next' =>
      obtain ⟨⟨f0, f1, f2, f3, f4, f5⟩, fk, _, ⟨fs, _⟩, fn⟩ := hF
      obtain ⟨⟨g0, g1, g2, g3, g4, g5⟩, gk, _, ⟨gs, _⟩, gn⟩ := hG
      have e0 : h.k = h'.k := by rw [f0] at g0; simpa using g0
      have e1 : h.m = h'.m := by rw [f1] at g1; simpa using g1
      have e2 : h.e = h'.e := by rw [f2] at g2; simpa using g2
      have e3 : h.t = h'.t := by rw [f3] at g3; simpa using g3
      have e4 : a = a' ∧ kids.len = kids'.len ∧ c = c' := by rw [f4] at g4; simpa using g4
      have e5 : h.na = h'.na ∧ h.ns.length = h'.ns.length ∧ h.nc = h'.nc := by rw [f5] at g5; simpa using g5
      have hss : h.ns = h'.ns := by
        rcases fs with fs | ⟨b1, o1, q1, fs⟩
        · rw [fs] at e5 ⊢
          exact (List.eq_nil_of_length_eq_zero e5.2.1.symm).symm
        · rcases gs with gs | ⟨b2, o2, q2, gs⟩
          · rw [gs] at e5 ⊢
            exact List.eq_nil_of_length_eq_zero e5.2.1
          · rw [e5.1, q2] at q1
            cases q1
            apply List.ext_getElem?
            intro i
            by_cases hi : i < h.ns.length
            · have s1 := (fs.at (List.getElem?_eq_getElem hi)).1
              have hi2 : i < h'.ns.length := by rw [← e5.2.1]; exact hi
              have s2 := (gs.at (List.getElem?_eq_getElem hi2)).1
              rw [s1] at s2
              rw [List.getElem?_eq_getElem hi, List.getElem?_eq_getElem hi2]
              simpa using s2
            · rw [List.getElem?_eq_none (by omega), List.getElem?_eq_none (by rw [← e5.2.1]; omega)]
      have hhd : h = h' := by
        cases h; cases h'
        simp only [Hd.mk.injEq]
        exact ⟨e0, e1, e2, e3, e5.1, e5.2.2, hss⟩
      have hkk : kids = kids' := by
        rcases fk with fk | ⟨b1, o1, q1, fk⟩
        · subst fk
          cases kids' with
          | nil => rfl
          | cons => exact absurd e4.2.1.symm (Nat.succ_ne_zero _)
        · rcases gk with gk | ⟨b2, o2, q2, gk⟩
          · subst gk
            cases kids with
            | nil => rfl
            | cons => exact absurd e4.2.1 (Nat.succ_ne_zero _)
          · rw [e4.1, q2] at q1
            cases q1
            exact ih1 kids' _ _ fk gk e4.2.1
      rw [hhd, e4.1, e4.2.2, hkk, ih2 next' b (o + 6) fn gn (Nat.succ.inj hl)]
set_option maxHeartbeats 400000 in
theorem placeOfV_any (a : Option Addr) (n c : Nat) (w : World) (h : n = 0 ∨ ∃ b o, a = some ⟨b, o, none⟩) (hn : n ≤ 2000000) :
    Calls Try.prog 51 #[.slice a n c] w fun e w' => e = .returned (plV (plOf a n)) ∧ Below w.heap.size w w' := by
  by_cases h0 : n = 0
  · subst h0
    go_enter Try.func51, Try.ntmps51
    go_wp2_with fail
    exact bodyPost_ret (v := plV (plOf a 0)) (by simp [results, Try.results51, go_sem, plV, plOf]) rfl ⟨rfl, (by (repeat' (first | assumption | exact Below.refl _ _ | refine Below.alloc ?_ ?_ _ | refine Below.setCell ?_ ?_ _ | refine Below.drew ?_ | refine below_drewN ?_ _)) <;> (first | omega | (simp <;> omega)))⟩
  · obtain ⟨b, o, rfl⟩ : ∃ b o, a = some ⟨b, o, none⟩ := by rcases h with h | h; exact absurd h h0; exact h
    have g0 : ((n : Int) == 0) = false := by simp; omega
    have g1 : (0 : Int) < (n : Int) := by omega
    go_enter Try.func51, Try.ntmps51
    go_wp2_with fail
    exact bodyPost_ret (v := plV (plOf (some ⟨b, o, none⟩) n)) (by simp [results, Try.results51, go_sem, plV, plOf, h0]) rfl ⟨rfl, (by (repeat' (first | assumption | exact Below.refl _ _ | refine Below.alloc ?_ ?_ _ | refine Below.setCell ?_ ?_ _ | refine Below.drew ?_ | refine below_drewN ?_ _)) <;> (first | omega | (simp <;> omega)))⟩
set_option maxHeartbeats 400000 in
theorem belowV_any (h : Hd) (a : Option Addr) (n c : Nat) (w : World) :
    Calls Try.prog 135 #[valV h a n c] w fun r w' => r = .returned (.slice a n c) ∧ Below w.heap.size w w' := by
  go_enter Try.func135, Try.ntmps135
  go_wp2_with fail
  go_ret
  exact ⟨rfl, (Below.refl _ w).alloc (Nat.le_refl _) _⟩
/-- which function the values' own is -/
theorem belowV_method (v : Value) (W : World) : (method 273 28 v "loop.example/chancery/impl.below").run Try.prog W = .ok (135, v) W := by kernel_rfl
theorem sameHeadV_method (v : Value) (W : World) : (method 273 28 v "loop.example/chancery/impl.sameHead").run Try.prog W = .ok (48, v) W := by kernel_rfl
instance (h g : Hd) : Decidable (h.same g) := by unfold Hd.same; infer_instance
/-- heads that are the same -/
def headSameV (h : Hd) (n : Nat) (g : Hd) (n' : Nat) : Bool := decide (h.same g ∧ n = n')
set_option maxRecDepth 100000 in
set_option maxHeartbeats 1000000 in
theorem sameHeadV_any (h g : Hd) (a a2 : Option Addr) (n c n2 c2 : Nat) (w : World) (hh : h.In w) (hg : g.In w) :
    Calls Try.prog 48 #[valV h a n c, valV g a2 n2 c2] w fun r w' => r = .returned (.bool (headSameV h n g n2)) ∧ Below w.heap.size w w' := by
  obtain ⟨k, m, e, t, na, nc, ns⟩ := h
  obtain ⟨k', m', e', t', na', nc', ns'⟩ := g
  have hB := ((Below.refl _ w).alloc (Nat.le_refl _) (.cells #[.int .i64 k, .int .i64 m, .int .i64 e, .string t, .slice a n c, .slice na ns.length nc] 28)).alloc (by simp) (.cells #[.int .i64 k', .int .i64 m', .int .i64 e', .string t', .slice a2 n2 c2, .slice na' ns'.length nc'] 28)
  have no : ∀ (P : Prop), (¬ ((⟨k, m, e, t, na, nc, ns⟩ : Hd).same ⟨k', m', e', t', na', nc', ns'⟩ ∧ n = n2)) → headSameV ⟨k, m, e, t, na, nc, ns⟩ n ⟨k', m', e', t', na', nc', ns'⟩ n2 = false := fun _ h => decide_eq_false h
  by_cases h1 : k = k'
  · subst h1
    by_cases h2 : m = m'
    · subst h2
      by_cases h3 : e = e'
      · subst h3
        by_cases h4 : t = t'
        · subst h4
          by_cases h5 : n = n2
          · subst h5
            have HI : Hid ((SIn w ns na ∧ SIn w ns' na') ∧ ns.length ≤ nc ∧ nc ≤ maxLen ∧ ns'.length ≤ nc') := ⟨⟨hh.1, hg.1⟩, hh.2.1.1, hh.2.1.2, hg.2.1.1⟩
            have HE : Hid (headSameV ⟨k, m, e, t, na, nc, ns⟩ n ⟨k, m, e, t, na', nc', ns'⟩ n = decide (ns = ns')) := by
              unfold Hid headSameV Hd.same
              simp
            clear hh hg no
            go_enter Try.func48, Try.ntmps48
            go_wp2_with fail
            refine (equalS_any ns ns' na na' nc nc' _ (HI.out.1.1.grow hB) (HI.out.1.2.grow hB) HI.out.2.1 HI.out.2.2.1 HI.out.2.2.2).mono ?_
            rintro r w1 ⟨rfl, hb1⟩
            have hB1 := hB.trans (hb1.mono hB.size)
            generalize hq : decide (ns = ns') = q
            rw [hq] at HE
            clear hq
            go_wp2_with fail
            go_ret
            exact ⟨by rw [HE.out]; rfl, hB1⟩
          · have HN : Hid _ := no True (fun x => h5 x.2)
            have h5' : ¬ (n : Int) = (n2 : Int) := by omega
            clear hh hg no
            go_enter Try.func48, Try.ntmps48
            go_wp2_with fail
            go_ret
            exact ⟨by rw [HN.out]; rfl, hB⟩
        · have HN : Hid _ := no True (fun x => h4 x.1.1.2.2.2)
          have h4' : (t.toList == t'.toList) = false := by have := text_ne h4; simpa using this
          clear hh hg no
          go_enter Try.func48, Try.ntmps48
          go_wp2_with fail
          go_ret
          exact ⟨by rw [HN.out]; rfl, hB⟩
      · have HN : Hid _ := no True (fun x => h3 x.1.1.2.2.1)
        clear hh hg no
        go_enter Try.func48, Try.ntmps48
        go_wp2_with fail
        go_ret
        exact ⟨by rw [HN.out]; rfl, hB⟩
    · have HN : Hid _ := no True (fun x => h2 x.1.1.2.1)
      clear hh hg no
      go_enter Try.func48, Try.ntmps48
      go_wp2_with fail
      go_ret
      exact ⟨by rw [HN.out]; rfl, hB⟩
  · have HN : Hid _ := no True (fun x => h1 x.1.1.1)
    clear hh hg no
    go_enter Try.func48, Try.ntmps48
    go_wp2_with fail
    go_ret
    exact ⟨by rw [HN.out]; rfl, hB⟩
end Go.Proofs.Ytalncebnahlmdaa
