/- My own texts, joined: Draw DrawW Dm2 Dm3 Draw2 Ub Ve Vf Kr Sd Sg Sh Wa Wb Wc Wd Wg Wh Si Wi Sj Wj Wf Vc Wk Uf. -/
import Derived.Test.YtfgchdnpbbgmjaaRows
import Derived.WalkKit
import Derived.WalkSpells
import Derived.WalkLawsBesides
import Derived.Below
import Derived.OpenShut
import Derived.Deep.QuietTactic
import Derived.BigQuiet
import Derived.Test.YtfgchdnpbbgmjaaJFnTomlNot0
import Derived.Test.YtfgchdnpbbgmjaaJFnTomlNot4
import Derived.Test.YtfgchdnpbbgmjaaJFnTomlNot5
import Derived.Carry
import Derived.Laws.OwnMore
import Derived.Deep.RegionHeld3
/- Contracts of the drawing functions: pick, one, l1Open. What is drawn is whatever it is; only where it is written, and its bounds, are told. -/
namespace Go.Proofs.Ytfgchdnpbbgmjaa
open Go.RowKit

/-- what a walk is told of a slice of integers that came in -/
def IsRow (k : IntKind) (w : World) (a : Option Addr) (len cap : Nat) (zs : List Int) : Prop :=
  (a = none ∧ len = 0 ∧ cap = 0 ∧ zs = []) ∨
  ∃ x, a = some x ∧ len ≤ cap ∧ cap ≤ maxLen ∧ zs.length = cap ∧ (∀ i, i < zs.length → w.cell? (x.add i) = some (.int k (zs.getD i 0))) ∧ ∀ n ∈ zs, (Lit.int k n).wf = true

/-- a code of at most so many bytes: none, or bytes in a block below B of W -/
def Code (W : World) (B : Nat) (a : Option Addr) (len : Nat) : Prop :=
  len = 0 ∨ ∃ k off, a = some ⟨k, off, none⟩ ∧ k < B ∧ ∀ i, i < len → ∃ c : Int, 0 ≤ c ∧ c ≤ 255 ∧ W.cell? ⟨k, off + i, none⟩ = some (.int .u8 c)
theorem Code.below {W W' : World} {B : Nat} {a : Option Addr} {len : Nat} (h : Code W B a len) (hb : Below B W W') : Code W' B a len := by
  rcases h with h | ⟨k, off, h1, h2, h3⟩
  · exact .inl h
  · refine .inr ⟨k, off, h1, h2, fun i hi => ?_⟩
    obtain ⟨c, c1, c2, c3⟩ := h3 i hi
    exact ⟨c, c1, c2, (hb.cell (p := ⟨k, off + i, none⟩) h2).trans c3⟩
theorem Code.less {W : World} {B : Nat} {a : Option Addr} {len len' : Nat} (h : Code W B a len) (hl : len' ≤ len) : Code W B a len' := by
  rcases h with h | ⟨k, off, h1, h2, h3⟩
  · exact .inl (by omega)
  · exact .inr ⟨k, off, h1, h2, fun i hi => h3 i (by omega)⟩

theorem xor_i64_nonneg (x y : Int) (hx : 0 ≤ x) (hx2 : x < 4611686018427387904) (hy : 0 ≤ y) (hy2 : y < 4611686018427387904) : 0 ≤ bits .xor .i64 x y := by
  obtain ⟨a, rfl⟩ := Int.eq_ofNat_of_zero_le hx
  obtain ⟨b, rfl⟩ := Int.eq_ofNat_of_zero_le hy
  have hxor : a ^^^ b < 2 ^ 62 := Nat.xor_lt_two_pow (by omega) (by omega)
  have h1 : (BitVec.ofInt 64 (a : Int)).toNat = a := by
    rw [BitVec.ofInt_natCast, BitVec.toNat_ofNat]; exact Nat.mod_eq_of_lt (by omega)
  have h2 : (BitVec.ofInt 64 (b : Int)).toNat = b := by
    rw [BitVec.ofInt_natCast, BitVec.toNat_ofNat]; exact Nat.mod_eq_of_lt (by omega)
  show 0 ≤ IntKind.i64.wrap ((BitVec.ofInt 64 (a : Int) ^^^ BitVec.ofInt 64 (b : Int)).toNat : Int)
  rw [BitVec.toNat_xor, h1, h2, IntKind.wrap_i64]
  omega

set_option maxHeartbeats 1000000 in
theorem pick_none (W : World) (b : Nat) (a : Option Addr) (cap : Nat) (p n : Int) (h0 : W.cell? ⟨b, 0, none⟩ = some (.slice a 0 cap)) (h1 : W.cell? ⟨b, 1, none⟩ = some (.int .i64 p)) (h2 : W.frozen? ⟨b, 1, none⟩ = false) (p0 : 0 ≤ p) (p1 : p ≤ 100000) (n1 : 1 ≤ n) :
    Calls Try.prog 19 #[.pointer (some ⟨b, 0, none⟩), .int .i64 n] W fun e w' => e = .returned (.int .i64 0) ∧ w' = W.setCell ⟨b, 1, none⟩ (.int .i64 (p + 1)) := by
  go_enter Try.func19, Try.ntmps19
  go_wp2
  go_ret
  exact ⟨rfl, rfl⟩

set_option maxHeartbeats 1000000 in
theorem pick_near (W : World) (b k off len cap : Nat) (p n c : Int) (h0 : W.cell? ⟨b, 0, none⟩ = some (.slice (some ⟨k, off, none⟩) len cap)) (h1 : W.cell? ⟨b, 1, none⟩ = some (.int .i64 p)) (h2 : W.frozen? ⟨b, 1, none⟩ = false) (p0 : 0 ≤ p) (p1 : p ≤ 100000) (n1 : 1 ≤ n) (n2 : n ≤ 100000)
    (hkb : ¬ k = b) (hl0 : 0 < len) (hl1 : len ≤ 2000) (hp : p < len) (hc : W.cell? ⟨k, off + p.toNat, none⟩ = some (.int .u8 c)) (c0 : 0 ≤ c) (c1 : c ≤ 255) :
    Calls Try.prog 19 #[.pointer (some ⟨b, 0, none⟩), .int .i64 n] W fun e w' => e = .returned (.int .i64 (c % n)) ∧ w' = W.setCell ⟨b, 1, none⟩ (.int .i64 (p + 1)) := by
  have hn1 : decide (n < 1) = false := by simp; omega
  have hlen : ((len : Int) == 0) = false := by simp; omega
  go_enter Try.func19, Try.ntmps19
  go_wp2
  go_ret
  exact ⟨rfl, rfl⟩

set_option maxHeartbeats 1000000 in
theorem pick_far (W : World) (b k off len cap : Nat) (p n c d : Int) (h0 : W.cell? ⟨b, 0, none⟩ = some (.slice (some ⟨k, off, none⟩) len cap)) (h1 : W.cell? ⟨b, 1, none⟩ = some (.int .i64 p)) (h2 : W.frozen? ⟨b, 1, none⟩ = false) (p0 : 0 ≤ p) (p1 : p ≤ 100000) (n1 : 1 ≤ n) (n2 : n ≤ 100000)
    (hkb : ¬ k = b) (hl0 : 0 < len) (hl1 : len ≤ 2000) (hp : len ≤ p) (hc : W.cell? ⟨k, off + (p % len).toNat, none⟩ = some (.int .u8 c)) (c0 : 0 ≤ c) (c1 : c ≤ 255) (hd : W.cell? ⟨k, off + ((p * 7 + 3) % len).toNat, none⟩ = some (.int .u8 d)) (d0 : 0 ≤ d) (d1 : d ≤ 255) :
    Calls Try.prog 19 #[.pointer (some ⟨b, 0, none⟩), .int .i64 n] W fun e w' => (∃ v, e = .returned (.int .i64 v) ∧ 0 ≤ v ∧ v < n) ∧ ∃ j, w' = (W.setCell ⟨b, 1, none⟩ (.int .i64 (p + 1))).drewN j := by
  have hn1 : decide (n < 1) = false := by simp; omega
  have hlen : ((len : Int) == 0) = false := by simp; omega
  have hnz : (n == 0) = false := by simp; omega
  have q1 : 0 ≤ p % len := Int.emod_nonneg _ (by omega)
  have q2 : p % len < len := Int.emod_lt_of_pos _ (by omega)
  have q3 : 0 ≤ (p * 7 + 3) % len := Int.emod_nonneg _ (by omega)
  have q4 : (p * 7 + 3) % len < len := Int.emod_lt_of_pos _ (by omega)
  have q5 : 0 ≤ p / len := Int.ediv_nonneg (by omega) (by omega)
  have q6 : p / len ≤ p := Int.ediv_le_self _ (by omega)
  go_enter Try.func19, Try.ntmps19
  go_wp2
  go_quiet (fail)
  go_wp2
  go_ret
  refine ⟨⟨_, rfl, Int.tmod_nonneg _ (xor_i64_nonneg _ _ (by omega) (by omega) (by omega) (by omega)), Int.tmod_lt_of_pos _ (by omega)⟩, _, rfl⟩

/-- the reader lies in block b, reads that code, and stands at p; below B nothing has turned since w0 -/
def Rd (w0 : World) (B b : Nat) (a : Option Addr) (len cap : Nat) (p : Int) (W : World) : Prop :=
  Below B w0 W ∧ B ≤ b ∧ B ≤ W.heap.size ∧ Code w0 B a len ∧ len ≤ 2000 ∧ 0 ≤ p ∧ W.cell? ⟨b, 0, none⟩ = some (.slice a len cap) ∧ W.cell? ⟨b, 1, none⟩ = some (.int .i64 p) ∧ W.frozen? ⟨b, 1, none⟩ = false
theorem Rd.lt {w0 : World} {B b : Nat} {a : Option Addr} {len cap : Nat} {p : Int} {W : World} (h : Rd w0 B b a len cap p W) : b < W.heap.size := World.block_lt_of_cell? W _ h.2.2.2.2.2.2.1
theorem Rd.below {w0 : World} {B b : Nat} {a : Option Addr} {len cap : Nat} {p : Int} {W W' : World} (h : Rd w0 B b a len cap p W) (hb : Below W.heap.size W W') : Rd w0 B b a len cap p W' := by
  have hl := h.lt
  obtain ⟨h1, h2, h3, h4, h5, h6, h7, h8, h9⟩ := h
  have := hb.size
  exact ⟨h1.trans (hb.mono h3), h2, by omega, h4, h5, h6, (hb.cell (p := ⟨b, 0, none⟩) hl).trans h7, (hb.cell (p := ⟨b, 1, none⟩) hl).trans h8, (hb.frozen (p := ⟨b, 1, none⟩) hl).trans h9⟩
/-- what a pick does to the world: one cell of the reader's block, and draws -/
def Stepped (b : Nat) (p : Int) (W w' : World) : Prop := ∃ j, w' = (W.setCell ⟨b, 1, none⟩ (.int .i64 (p + 1))).drewN j
theorem Rd.step {w0 : World} {B b : Nat} {a : Option Addr} {len cap : Nat} {p : Int} {W W' : World} (h : Rd w0 B b a len cap p W) (hs : Stepped b p W W') : Rd w0 B b a len cap (p + 1) W' := by
  obtain ⟨j, rfl⟩ := hs
  obtain ⟨h1, h2, h3, h4, h5, h6, h7, h8, h9⟩ := h
  have e : (W.setCell ⟨b, 1, none⟩ (.int .i64 (p + 1))).cell? ⟨b, 0, none⟩ = some (.slice a len cap) := (World.cell?_setCell_other _ _ _ _ (by simp)).trans h7
  refine ⟨below_drewN (h1.setCell (p := ⟨b, 1, none⟩) h2 _) _, h2, ?_, h4, h5, by omega, e, ?_, ?_⟩
  · simp [World.setCell]; exact h3
  · exact World.cell?_setCell_same W ⟨b, 1, none⟩ _ h8
  · simpa using h9
/-- every other block is as it was -/
theorem Stepped.other {b : Nat} {p : Int} {W W' : World} (hs : Stepped b p W W') : (∀ c o, ¬ c = b → W'.cell? ⟨c, o, none⟩ = W.cell? ⟨c, o, none⟩) ∧ (∀ c o, ¬ c = b → W'.frozen? ⟨c, o, none⟩ = W.frozen? ⟨c, o, none⟩) ∧ W'.heap.size = W.heap.size := by
  obtain ⟨j, rfl⟩ := hs
  refine ⟨fun c o h => ?_, fun c o _ => by simp, by simp [World.setCell]⟩
  exact World.cell?_setCell_other _ _ _ _ (fun e => h (by simpa using congrArg Addr.block e.symm))

theorem pick_any {w0 : World} {B b : Nat} {a : Option Addr} {len cap : Nat} {p : Int} {W : World} (n : Int) (h : Rd w0 B b a len cap p W) (p1 : p ≤ 100000) (n1 : 1 ≤ n) (n2 : n ≤ 100000) :
    Calls Try.prog 19 #[.pointer (some ⟨b, 0, none⟩), .int .i64 n] W fun e w' => (∃ v, e = .returned (.int .i64 v) ∧ 0 ≤ v ∧ v < n) ∧ Stepped b p W w' := by
  obtain ⟨h1, h2, h3, h4, h5, h6, h7, h8, h9⟩ := h
  by_cases hl : len = 0
  · subst hl
    refine (pick_none W b a cap p n h7 h8 h9 h6 p1 n1).mono ?_
    rintro e w' ⟨rfl, rfl⟩
    exact ⟨⟨0, rfl, by omega, by omega⟩, 0, rfl⟩
  · rcases h4 with h | ⟨k, off, rfl, hk, hc⟩
    · exact absurd h hl
    · have cellAt : ∀ i, i < len → ∃ c : Int, 0 ≤ c ∧ c ≤ 255 ∧ W.cell? ⟨k, off + i, none⟩ = some (.int .u8 c) := by
        intro i hi
        obtain ⟨c, c0, c1, c2⟩ := hc i hi
        exact ⟨c, c0, c1, (h1.cell (p := ⟨k, off + i, none⟩) hk).trans c2⟩
      by_cases hp : p < len
      · obtain ⟨c, c0, c1, c2⟩ := cellAt p.toNat (by omega)
        refine (pick_near W b k off len cap p n c h7 h8 h9 h6 p1 n1 n2 (by omega) (by omega) h5 hp c2 c0 c1).mono ?_
        rintro e w' ⟨rfl, rfl⟩
        exact ⟨⟨_, rfl, Int.emod_nonneg _ (by omega), Int.emod_lt_of_pos _ (by omega)⟩, 0, rfl⟩
      · have q1 : 0 ≤ p % len := Int.emod_nonneg _ (by omega)
        have q2 : p % len < len := Int.emod_lt_of_pos _ (by omega)
        have q3 : 0 ≤ (p * 7 + 3) % len := Int.emod_nonneg _ (by omega)
        have q4 : (p * 7 + 3) % len < len := Int.emod_lt_of_pos _ (by omega)
        obtain ⟨c, c0, c1, c2⟩ := cellAt (p % len).toNat (by omega)
        obtain ⟨d, d0, d1, d2⟩ := cellAt ((p * 7 + 3) % len).toNat (by omega)
        exact pick_far W b k off len cap p n c d h7 h8 h9 h6 p1 n1 n2 (by omega) (by omega) h5 (by omega) c2 c0 c1 d2 d0 d1

set_option maxHeartbeats 1000000 in
/-- one of a list of numbers that lies in a block of its own -/
theorem one_any {w0 : World} {B b : Nat} {a : Option Addr} {len cap : Nat} {p : Int} {W : World} (h : Rd w0 B b a len cap p W) (p1 : p ≤ 100000) (l n : Nat) (zs : List Int) (hl : ¬ l = b) (hn : zs.length = n) (n1 : 1 ≤ n) (n2 : n ≤ 100)
    (hc : ∀ i, i < n → W.cell? ⟨l, i, none⟩ = some (.int .i64 (zs.getD i 0))) :
    Calls Try.prog 47 #[.pointer (some ⟨b, 0, none⟩), .slice (some ⟨l, 0, none⟩) n n] W fun e w' => (∃ v, e = .returned (.int .i64 v) ∧ v ∈ zs) ∧ Stepped b p W w' := by
  go_enter Try.func47, Try.ntmps47
  go_wp2_with fail
  refine (pick_any _ h p1 (by omega) (by omega)).mono ?_
  rintro e w1 ⟨⟨v, rfl, v0, v1⟩, hs⟩
  obtain ⟨i, rfl⟩ := Int.eq_ofNat_of_zero_le v0
  have hi : i < n := by omega
  have hci : w1.cell? ⟨l, i, none⟩ = some (.int .i64 (zs.getD i 0)) := (hs.other.1 l i hl).trans (hc i hi)
  have hmem : zs.getD i 0 ∈ zs := by rw [List.getD_eq_getElem?_getD, List.getElem?_eq_getElem (by omega)]; exact List.getElem_mem _
  generalize zs.getD i 0 = z at *
  clear hc h
  go_wp2_with fail
  go_ret
  exact ⟨⟨z, rfl, hmem⟩, hs⟩

/-- a slice of bytes that came in, as the drawing functions want it -/
def CodeIn (W : World) (a : Option Addr) (len cap : Nat) : Prop := Code W W.heap.size a len ∧ len ≤ cap ∧ cap ≤ maxLen ∧ (a = none → cap = 0)
theorem codeIn_of {w : World} {a : Option Addr} {len cap : Nat} {zs : List Int} (h : IsRow .u8 w a len cap zs) : CodeIn w a len cap := by
  rcases h with ⟨rfl, rfl, rfl, rfl⟩ | ⟨x, rfl, hl, hm, hz, hc, hw⟩
  · exact ⟨.inl rfl, Nat.le_refl _, by unfold maxLen; omega, fun _ => rfl⟩
  · refine ⟨?_, hl, hm, fun h => by cases h⟩
    by_cases h0 : len = 0
    · exact .inl h0
    · obtain ⟨k, off, spot⟩ := x
      have c0 := hc 0 (by omega)
      have hspot : spot = none := by simpa [Addr.add] using World.cell?_spot c0
      subst hspot
      refine .inr ⟨k, off, rfl, World.block_lt_of_cell? w _ c0, fun i hi => ?_⟩
      have ci := hc i (by omega)
      have hmem : zs.getD i 0 ∈ zs := by rw [List.getD_eq_getElem?_getD, List.getElem?_eq_getElem (by omega)]; exact List.getElem_mem _
      have hb := bounds_u8 (hw _ hmem)
      have e : Addr.add ⟨k, off, none⟩ i = ⟨k, off + i, none⟩ := by
        by_cases hi0 : i = 0
        · subst hi0; simp [Addr.add]
        · simp [Addr.add, hi0]
      rw [e] at ci
      exact ⟨zs.getD i 0, hb.1, hb.2, ci⟩
theorem CodeIn.below {W W' : World} {a : Option Addr} {len cap : Nat} (h : CodeIn W a len cap) (hb : Below W.heap.size W W') : CodeIn W' a len cap := by
  obtain ⟨h1, h2, h3, h4⟩ := h
  refine ⟨?_, h2, h3, h4⟩
  rcases h1.below hb with h | ⟨k, off, e1, e2, e3⟩
  · exact .inl h
  · exact .inr ⟨k, off, e1, by have := hb.size; omega, e3⟩

set_option maxHeartbeats 1000000 in
theorem l1Open_any (W : World) (a : Option Addr) (len cap : Nat) (h : CodeIn W a len cap) :
    Calls Try.prog 18 #[.slice a len cap] W fun e w' => ∃ len', e = .returned (.pointer (some ⟨W.heap.size, 0, none⟩)) ∧ Rd W W.heap.size W.heap.size a len' cap 0 w' := by
  obtain ⟨h1, h2, h3, h4⟩ := h
  unfold maxLen at h3
  by_cases hl : 2000 < len
  · cases a with
    | none => have := h4 rfl; omega
    | some x =>
      have hC := h1.less (len' := 2000) (by omega)
      have q1 : (2000 : Int) ≤ cap := by omega
      have q2 : 2000 ≤ cap := by omega
      clear h1 h4
      go_enter Try.func18, Try.ntmps18
      go_wp2
      go_ret
      refine ⟨2000, rfl, (Below.refl _ _).alloc (Nat.le_refl _) _, Nat.le_refl _, by simp, hC, by omega, by omega, ?_, ?_, ?_⟩
      all_goals simp
  · have hC := h1
    clear h1 h4
    go_enter Try.func18, Try.ntmps18
    go_wp2
    go_ret
    refine ⟨len, rfl, (Below.refl _ _).alloc (Nat.le_refl _) _, Nat.le_refl _, by simp, hC, by omega, by omega, ?_, ?_, ?_⟩
    all_goals simp
end Go.Proofs.Ytfgchdnpbbgmjaa
/- Contracts of the drawing functions: one of some texts; DrawNameOk. -/
namespace Go.Proofs.Ytfgchdnpbbgmjaa
open Go.RowKit

set_option maxHeartbeats 1000000 in
/-- one of a list of texts that lies in a block of its own -/
theorem of_any {w0 : World} {B b : Nat} {a : Option Addr} {len cap : Nat} {p : Int} {W : World} (h : Rd w0 B b a len cap p W) (p1 : p ≤ 100000) (l n : Nat) (zs : List ByteArray) (hl : ¬ l = b) (hn : zs.length = n) (n1 : 1 ≤ n) (n2 : n ≤ 100)
    (hc : ∀ i, i < n → W.cell? ⟨l, i, none⟩ = some (.string (zs.getD i default))) :
    Calls Try.prog 50 #[.pointer (some ⟨b, 0, none⟩), .slice (some ⟨l, 0, none⟩) n n] W fun e w' => (∃ v, e = .returned (.string v) ∧ v ∈ zs) ∧ Stepped b p W w' := by
  go_enter Try.func50, Try.ntmps50
  go_wp2_with fail
  refine (pick_any _ h p1 (by omega) (by omega)).mono ?_
  rintro e w1 ⟨⟨v, rfl, v0, v1⟩, hs⟩
  obtain ⟨i, rfl⟩ := Int.eq_ofNat_of_zero_le v0
  have hi : i < n := by omega
  have hci : w1.cell? ⟨l, i, none⟩ = some (.string (zs.getD i default)) := (hs.other.1 l i hl).trans (hc i hi)
  have hmem : zs.getD i default ∈ zs := by rw [List.getD_eq_getElem?_getD, List.getElem?_eq_getElem (by omega)]; exact List.getElem_mem _
  generalize zs.getD i default = z at *
  clear hc h
  go_wp2_with fail
  go_ret
  exact ⟨⟨z, rfl, hmem⟩, hs⟩

end Go.Proofs.Ytfgchdnpbbgmjaa
/- Plain mathematics of the quotient: no program in it. -/
namespace Go.Proofs.Ytfgchdnpbbgmjaa.Dm
end Go.Proofs.Ytfgchdnpbbgmjaa.Dm
/- Plain mathematics of what is left: no program in it. -/
namespace Go.Proofs.Ytfgchdnpbbgmjaa.Dm
theorem norm_ok {m e : Int} (h : (norm m e).2.2 = true) : ok (norm m e).1 (norm m e).2.1 = true := by
  unfold norm at h ⊢
  by_cases h0 : m = 0
  · rw [if_pos h0]; rfl
  · rw [if_neg h0] at h ⊢
    by_cases ho : ok (strip 20 m e).1 (strip 20 m e).2 = true
    · rw [if_pos ho]; exact ho
    · rw [if_neg ho] at h; simp at h
theorem norm_i64 (m e : Int) : -99999999 ≤ (norm m e).1 ∧ (norm m e).1 ≤ 99999999 := by
  by_cases h : (norm m e).2.2 = true
  · have := ok_bd (norm_ok h); omega
  · have : norm m e = (0, 0, false) := by
      unfold norm at h ⊢
      by_cases h0 : m = 0
      · rw [if_pos h0] at h; simp at h
      · rw [if_neg h0] at h ⊢
        by_cases ho : ok (strip 20 m e).1 (strip 20 m e).2 = true
        · rw [if_pos ho] at h; simp at h
        · rw [if_neg ho]
    rw [this]; exact ⟨by decide, by decide⟩
end Go.Proofs.Ytfgchdnpbbgmjaa.Dm
/- Contracts: l14Dec, l14AnyDec, the draws of two numbers. -/
namespace Go.Proofs.Ytfgchdnpbbgmjaa
open Go.RowKit
attribute [local go_sem] cell_alloc_is frozen_alloc_is

/-- two cells of another block are as they were -/
theorem Two.stepped {b c : Nat} {p m x : Int} {W W' : World} (h : Two W c m x) (hs : Stepped b p W W') (hc : ¬ c = b) : Two W' c m x :=
  ⟨(hs.other.1 c 0 hc).trans h.1, (hs.other.1 c 1 hc).trans h.2.1, (hs.other.2.1 c 0 hc).trans h.2.2.1, (hs.other.2.1 c 1 hc).trans h.2.2.2⟩

/-- every block that was there, but b, is as it was -/
def Oth (b : Nat) (W w' : World) : Prop := W.heap.size ≤ w'.heap.size ∧ ∀ c o, c < W.heap.size → ¬ c = b → w'.cell? ⟨c, o, none⟩ = W.cell? ⟨c, o, none⟩ ∧ w'.frozen? ⟨c, o, none⟩ = W.frozen? ⟨c, o, none⟩
theorem Oth.refl (b : Nat) (W : World) : Oth b W W := ⟨Nat.le_refl _, fun _ _ _ _ => ⟨rfl, rfl⟩⟩
theorem Oth.below {b : Nat} {W w' w'' : World} (h : Oth b W w') (k : Below w'.heap.size w' w'') : Oth b W w'' :=
  ⟨Nat.le_trans h.1 k.size, fun c o hc hb => ⟨(k.cell (p := ⟨c, o, none⟩) (Nat.lt_of_lt_of_le hc h.1)).trans (h.2 c o hc hb).1, (k.frozen (p := ⟨c, o, none⟩) (Nat.lt_of_lt_of_le hc h.1)).trans (h.2 c o hc hb).2⟩⟩
theorem Oth.alloc {b : Nat} {W w' : World} (h : Oth b W w') (o : Obj) : Oth b W (w'.alloc o) := h.below ((Below.refl _ _).alloc (Nat.le_refl _) o)
theorem Oth.stepped {b : Nat} {p : Int} {W w' w'' : World} (h : Oth b W w') (k : Stepped b p w' w'') : Oth b W w'' := by
  obtain ⟨k1, k2, k3⟩ := k.other
  exact ⟨by rw [k3]; exact h.1, fun c o hc hb => ⟨(k1 c o hb).trans (h.2 c o hc hb).1, (k2 c o hb).trans (h.2 c o hc hb).2⟩⟩
theorem Oth.trans {b : Nat} {W w' w'' : World} (h : Oth b W w') (k : Oth b w' w'') : Oth b W w'' :=
  ⟨Nat.le_trans h.1 k.1, fun c o hc hb => ⟨(k.2 c o (Nat.lt_of_lt_of_le hc h.1) hb).1.trans (h.2 c o hc hb).1, (k.2 c o (Nat.lt_of_lt_of_le hc h.1) hb).2.trans (h.2 c o hc hb).2⟩⟩
theorem Oth.set {b j o : Nat} {W w' : World} (h : Oth b W w') (hj : W.heap.size ≤ j) (u : Value) : Oth b W (w'.setCell ⟨j, o, none⟩ u) := by
  have q : Below W.heap.size w' (w'.setCell ⟨j, o, none⟩ u) := (Below.refl _ w').setCell (p := ⟨j, o, none⟩) hj u
  exact ⟨Nat.le_trans h.1 q.size, fun c o' hc hb => ⟨(q.cell (p := ⟨c, o', none⟩) hc).trans (h.2 c o' hc hb).1, (q.frozen (p := ⟨c, o', none⟩) hc).trans (h.2 c o' hc hb).2⟩⟩
theorem Rd.set {w0 : World} {B b j o : Nat} {a : Option Addr} {len cap : Nat} {p : Int} {W : World} (h : Rd w0 B b a len cap p W) (hj : B ≤ j) (hb : ¬ b = j) (u : Value) : Rd w0 B b a len cap p (W.setCell ⟨j, o, none⟩ u) := by
  obtain ⟨h1, h2, h3, h4, h5, h6, h7, h8, h9⟩ := h
  have far : ∀ o', (W.setCell ⟨j, o, none⟩ u).cell? ⟨b, o', none⟩ = W.cell? ⟨b, o', none⟩ := fun o' => World.cell?_setCell_other _ _ _ _ (fun e => hb (by simpa using congrArg Addr.block e.symm))
  exact ⟨h1.setCell (p := ⟨j, o, none⟩) hj u, h2, by simpa [World.setCell] using h3, h4, h5, h6, (far 0).trans h7, (far 1).trans h8, by simpa using h9⟩
theorem cells_list (W : World) (zs : List Int) (T : TypeId) : ∀ i, i < zs.length → (W.alloc (.cells (zs.map (Value.int .i64)).toArray T)).cell? ⟨W.heap.size, i, none⟩ = some (.int .i64 (zs.getD i 0)) := by
  intro i hi
  rw [World.cell?_alloc_new]
  simp [List.getElem?_eq_getElem hi]

end Go.Proofs.Ytfgchdnpbbgmjaa
/- Contracts of the drawing functions: l14Dec, l14Bytes, and what they leave alone: every block but the reader's. -/
namespace Go.Proofs.Ytfgchdnpbbgmjaa
open Go.RowKit
theorem hideItU {p : Prop} (h : p) : Hid p := h
/-- every block that was there, but b, is as it was -/
def Otb (b : Nat) (W w' : World) : Prop := W.heap.size ≤ w'.heap.size ∧ ∀ c, c < W.heap.size → ¬ c = b → w'.heap[c]? = W.heap[c]?
theorem Otb.refl (b : Nat) (W : World) : Otb b W W := ⟨Nat.le_refl _, fun _ _ _ => rfl⟩
theorem Otb.below {b : Nat} {W w' w'' : World} (h : Otb b W w') (k : Below w'.heap.size w' w'') : Otb b W w'' :=
  ⟨Nat.le_trans h.1 k.size, fun c hc hb => (k.block c (Nat.lt_of_lt_of_le hc h.1)).trans (h.2 c hc hb)⟩
theorem Otb.alloc {b : Nat} {W w' : World} (h : Otb b W w') (o : Obj) : Otb b W (w'.alloc o) := h.below ((Below.refl _ _).alloc (Nat.le_refl _) o)
theorem stepped_block {b : Nat} {p : Int} {W W' : World} (hs : Stepped b p W W') {c : Nat} (h : ¬ c = b) : W'.heap[c]? = W.heap[c]? := by
  obtain ⟨j, rfl⟩ := hs
  simpa using heap_setCell_other W ⟨b, 1, none⟩ c (.int .i64 (p + 1)) h
theorem Otb.stepped {b : Nat} {p : Int} {W w' w'' : World} (h : Otb b W w') (k : Stepped b p w' w'') : Otb b W w'' :=
  ⟨by rw [k.other.2.2]; exact h.1, fun c hc hb => (stepped_block k hb).trans (h.2 c hc hb)⟩
theorem Otb.trans {b : Nat} {W w' w'' : World} (h : Otb b W w') (k : Otb b w' w'') : Otb b W w'' :=
  ⟨Nat.le_trans h.1 k.1, fun c hc hb => (k.2 c (Nat.lt_of_lt_of_le hc h.1) hb).trans (h.2 c hc hb)⟩
theorem Otb.upto {b : Nat} {W w' w'' : World} (h : Otb b W w') (k : Below W.heap.size w' w'') : Otb b W w'' :=
  ⟨Nat.le_trans h.1 k.size, fun c hc hb => (k.block c hc).trans (h.2 c hc hb)⟩
theorem Otb.set {b j o : Nat} {W w' : World} (h : Otb b W w') (hj : W.heap.size ≤ j) (u : Value) : Otb b W (w'.setCell ⟨j, o, none⟩ u) :=
  h.upto ((Below.refl _ w').setCell (p := ⟨j, o, none⟩) hj u)
theorem Otb.drew {b : Nat} {W w' : World} (h : Otb b W w') : Otb b W w'.drew := h.upto ((Below.refl _ w').drew)
theorem Otb.cell {b c o : Nat} {W w' : World} (h : Otb b W w') (hc : c < W.heap.size) (hb : ¬ c = b) : w'.cell? ⟨c, o, none⟩ = W.cell? ⟨c, o, none⟩ := World.cell?_of_block (a := ⟨c, o, none⟩) (h.2 c hc hb)
theorem Otb.frozen {b c o : Nat} {W w' : World} (h : Otb b W w') (hc : c < W.heap.size) (hb : ¬ c = b) : w'.frozen? ⟨c, o, none⟩ = W.frozen? ⟨c, o, none⟩ := World.frozen?_of_block (a := ⟨c, o, none⟩) (h.2 c hc hb)
theorem Otb.own {b : Nat} {W w' : World} {base : Nat} {e : TypeId} {size : Nat} {v : Value} {n : Nat} {xs : List Value} (k : Otb b W w') (h : W.ownsRow base e size v n xs) (hb : b < base) : w'.ownsRow base e size v n xs := by
  obtain ⟨h1, h2⟩ := h
  refine ⟨h1, ?_⟩
  rcases h2 with h2 | ⟨g, cap, cur, e1, e2, e3, e4, e5, e6, e7⟩
  · exact .inl h2
  · exact .inr ⟨g, cap, cur, e1, e2, by rw [k.2 g (Array.getElem?_eq_some_iff.1 e3).1 (by omega)]; exact e3, e4, e5, e6, e7⟩
theorem byteInfoU : (Try.prog.info? 5).map (fun i => (i.zero, i.size, i.bytes)) = some (some (.int .u8 0), 1, 1) := by kernel_rfl
theorem grow_belowU {w W1 W2 : World} {B : Nat} {e : TypeId} {size : Nat} {v : Value} {n : Nat} {xs : List Value} {o : Obj} (hB : Below B w W1) (hown : W1.ownsRow B e size v n xs) (hg : (W1.alloc o).grownBy W2 v.ownBlock) (hz : B ≤ W1.heap.size) : Below B w W2 :=
  (hB.alloc hz o).grown hg (by simp; omega) (fun k hk => (hown.lt k hk).1)
theorem own_stepU {W W' : World} {base b : Nat} {p : Int} {e : TypeId} {size : Nat} {v : Value} {n : Nat} {xs : List Value} (h : W.ownsRow base e size v n xs) (hs : Stepped b p W W') (hb : b < base) : W'.ownsRow base e size v n xs := by
  obtain ⟨j, rfl⟩ := hs
  have h1 := ownsRow_setCell_below (a := ⟨b, 1, none⟩) h hb (.int .i64 (p + 1))
  obtain ⟨q1, q2⟩ := h1
  refine ⟨q1, ?_⟩
  rcases q2 with q2 | ⟨g, cap, cur, e1, e2, e3, e4, e5, e6, e7⟩
  · exact .inl q2
  · exact .inr ⟨g, cap, cur, e1, e2, by simpa using e3, e4, e5, e6, e7⟩
theorem conv_intsU {W : World} {base n : Nat} {v : Value} {xs : List Int} (h : W.ownsRow base 5 1 v n (xs.map (Value.int .u8))) (hn : n = xs.length) :
    (convert 22 9 v).run Try.prog W = .ok (.string (strOfNums xs)) W := by
  subst hn
  obtain ⟨h1, h2⟩ := h
  rcases h2 with ⟨rfl, h0⟩ | ⟨g, cap, cur, rfl, e2, e3, e4, e5, e6, e7⟩
  · have : xs = [] := List.eq_nil_of_length_eq_zero h0
    subst this
    exact run_convert_bytes_nil _ 22 5 Try.underlying22 Try.underlying5 0 0 9 Try.underlying9
  · exact run_convert_bytes_arg (P := Try.prog) W 22 5 Try.underlying22 Try.underlying5 g 0 xs.length cap xs rfl (fun i hi => by
      rw [Nat.zero_add]
      have h := World.ownsRow.cellAt ⟨h1, .inr ⟨g, cap, cur, rfl, e2, e3, e4, e5, e6, e7⟩⟩ i (by omega)
      rw [h]
      simp [hi]) 9 Try.underlying9

theorem Rd.uptoU {w0 : World} {B B' b : Nat} {a : Option Addr} {len cap : Nat} {p : Int} {W W' : World} (h : Rd w0 B b a len cap p W) (hb : Below B' W W') (h1 : b < B') (h2 : B ≤ B') : Rd w0 B b a len cap p W' := by
  obtain ⟨g1, g2, g3, g4, g5, g6, g7, g8, g9⟩ := h
  have := hb.size
  exact ⟨g1.trans (hb.mono h2), g2, by omega, g4, g5, g6, (hb.cell (p := ⟨b, 0, none⟩) h1).trans g7, (hb.cell (p := ⟨b, 1, none⟩) h1).trans g8, (hb.frozen (p := ⟨b, 1, none⟩) h1).trans g9⟩
theorem Rd.base_leU {w0 : World} {B b : Nat} {a : Option Addr} {len cap : Nat} {p : Int} {W : World} (h : Rd w0 B b a len cap p W) : B ≤ b := h.2.1
/-- what l14Bytes draws of -/
def drawnBytesU : List Int := [97, 98, 122, 32, 10, 34, 92, 0, 255, 127, 120, 49, 200, 9]
theorem drawnBytes_leU : ∀ z ∈ drawnBytesU, 0 ≤ z ∧ z ≤ 255 := by decide

set_option maxHeartbeats 2000000 in
theorem l14Bytes_otb {w0 : World} {B b : Nat} {a : Option Addr} {len cap : Nat} {p : Int} {W : World} (h : Rd w0 B b a len cap p W) (p1 : p ≤ 90000) :
    Calls Try.prog 77 #[.pointer (some ⟨b, 0, none⟩)] W fun e w' => ∃ s p', e = .returned (.string s) ∧ s.size ≤ 7 ∧ p' ≤ p + 10 ∧ Rd w0 B b a len cap p' w' ∧ Otb b W w' := by
  have hlt := h.lt
  obtain ⟨i0, hi, hz0, hz1, hz2⟩ := info_parts byteInfoU
  have R0 : Rd w0 B b a len cap p (W.alloc (.cells #[] 5)) := h.below ((Below.refl _ _).alloc (Nat.le_refl _) _)
  have own0 : (W.alloc (.cells #[] 5)).ownsRow W.heap.size 5 1 (.slice (some ⟨W.heap.size, 0, none⟩) 0 0) 0 [] := World.ownsRow_lit W #[] 0 (Nat.le_refl _) (by unfold maxLen; omega) rfl
  go_enter Try.func77, Try.ntmps77
  go_wp2_with fail
  refine (pick_any 8 R0 (by omega) (by omega) (by omega)).mono ?_
  rintro e w1 ⟨⟨n, rfl, n0, n1⟩, s1⟩
  have R1 := R0.step s1
  have own1 := own_stepU own0 s1 (by omega)
  have z1 : W.heap.size ≤ w1.heap.size := by rw [s1.other.2.2]; simp
  have O1 := ((Otb.refl b W).alloc (.cells #[] 5)).stepped s1
  clear R0 own0 s1
  obtain ⟨n, rfl⟩ := Int.eq_ofNat_of_zero_le n0
  go_wp2_with fail
  go_loopw [3, 4] (fun v i wr => ∃ (k : Nat) (q : Int) (xs : List Int), i = .int .i64 k ∧ k + xs.length ≤ 7 ∧ q + k ≤ p + 8 ∧ wr.ownsRow W.heap.size 5 1 v xs.length (xs.map (Value.int .u8)) ∧ Rd w0 B b a len cap q wr ∧ Otb b W wr) (fun _ i _ => (intOf i).toNat)
  case atStart => exact ⟨n, p + 1, [], rfl, by simp; omega, by omega, own1, R1, O1⟩
  case round =>
    obtain ⟨k, q, xs, rfl, hk, hq, hown, hR, hO⟩ := hrel
    have hz := hO.1
    by_cases hlt0 : 0 < k
    · have hbl := hR.lt
      have hA := hR.below ((Below.refl wr.heap.size wr).alloc (Nat.le_refl _) (.cells #[.int .i64 97, .int .i64 98, .int .i64 122, .int .i64 32, .int .i64 10, .int .i64 34, .int .i64 92, .int .i64 0, .int .i64 255, .int .i64 127, .int .i64 120, .int .i64 49, .int .i64 200, .int .i64 9] 3))
      have hownA := hown.alloc (.cells #[.int .i64 97, .int .i64 98, .int .i64 122, .int .i64 32, .int .i64 10, .int .i64 34, .int .i64 92, .int .i64 0, .int .i64 255, .int .i64 127, .int .i64 120, .int .i64 49, .int .i64 200, .int .i64 9] 3)
      go_wp2_with fail
      refine (one_any hA (by omega) wr.heap.size 14 drawnBytesU (by omega) rfl (by omega) (by omega) ?_).mono ?_
      · intro i hi
        have : i = 0 ∨ i = 1 ∨ i = 2 ∨ i = 3 ∨ i = 4 ∨ i = 5 ∨ i = 6 ∨ i = 7 ∨ i = 8 ∨ i = 9 ∨ i = 10 ∨ i = 11 ∨ i = 12 ∨ i = 13 := by omega
        rcases this with rfl | rfl | rfl | rfl | rfl | rfl | rfl | rfl | rfl | rfl | rfl | rfl | rfl | rfl
        all_goals simp [drawnBytesU]
      · rintro e w2 ⟨⟨z, rfl, hzm⟩, s2⟩
        obtain ⟨zb0, zb1⟩ := drawnBytes_leU z hzm
        have hR2 := hA.step s2
        have hown2 := own_stepU hownA s2 (by omega)
        have hO2 := (hO.alloc (.cells #[.int .i64 97, .int .i64 98, .int .i64 122, .int .i64 32, .int .i64 10, .int .i64 34, .int .i64 92, .int .i64 0, .int .i64 255, .int .i64 127, .int .i64 120, .int .i64 49, .int .i64 200, .int .i64 9] 3)).stepped s2
        have hz2' : W.heap.size ≤ w2.heap.size := by rw [s2.other.2.2]; simp; omega
        clear hA hownA s2 hzm hown
        go_wp2_with (at_builtin; refine wpList_append_own _ rfl _ _ 22 rfl W.heap.size 5 i0 (.int .u8 0) 1 1 Try.underlying22 hi hz0 hz1 hz2 rfl (by decide) _ _ _ rfl (hown2.alloc _) ⟨w2.heap.size, 0, none⟩ 1 1 [.int .u8 z] rfl rfl (cell_one_new _ _ _) (fun x hx => by simp at hx; subst hx; rfl) (by unfold maxLen; omega) (by omega) (by simp; omega) ?_; intro v' w3 hown3 hgrow3 hnil3)
        have hO3 : Otb b W w3 := hO2.upto (grow_belowU (Below.refl W.heap.size w2) hown2 hgrow3 hz2')
        have hR3 : Rd w0 B b a len cap (q + 1) w3 := hR2.uptoU (grow_belowU (Below.refl W.heap.size w2) hown2 hgrow3 hz2') hlt (by have := hR2.base_leU; omega)
        have hz3 : W.heap.size ≤ w3.heap.size := by have := hgrow3.size; simp at this; omega
        clear hgrow3 hnil3
        go_roundw
        case rel =>
          refine ⟨k - 1, q + 1, xs ++ [z], ?_, by simp; omega, by omega, ?_, hR3, hO3⟩
          · have : ((k - 1 : Nat) : Int) = (k : Int) - 1 := by omega
            rw [this]
          · rw [List.map_append, List.length_append]; exact hown3
        case measure => simp [intOf]; omega
    · have hk0 : ¬ (0 : Int) < (k : Int) := by omega
      have hcv := conv_intsU hown rfl
      go_wp2_with fail
      go_ret
      exact ⟨_, rfl, by rw [strOfNums_size]; omega, q, by omega, hR, hO⟩

attribute [local go_sem] cell_alloc_is frozen_alloc_is
set_option maxHeartbeats 1000000 in
theorem l14Dec_otb {w0 : World} {B b : Nat} {a : Option Addr} {len cap : Nat} {p : Int} {W : World} (h : Rd w0 B b a len cap p W) (p1 : p ≤ 90000) :
    Calls Try.prog 76 #[.pointer (some ⟨b, 0, none⟩)] W fun e w' => ∃ m x p', e = .returned (.agg #[.int .i64 m, .int .i64 x]) ∧ Dm.ok m x = true ∧ -99999999 ≤ m ∧ m ≤ 99999999 ∧ -8 ≤ x ∧ x ≤ 8 ∧ p' ≤ p + 10 ∧ Rd w0 B b a len cap p' w' ∧ Otb b W w' := by
  have hlt := h.lt
  have R0 : Rd w0 B b a len cap p (W.alloc (.cells #[.int .i64 0, .int .i64 0] 24)) := h.below ((Below.refl _ _).alloc (Nat.le_refl _) _)
  have T0 := Two.new W 0 0 24
  have O0 := (Otb.refl b W).alloc (.cells #[.int .i64 0, .int .i64 0] 24)
  have hne : ¬ W.heap.size = b := by omega
  go_enter Try.func76, Try.ntmps76
  go_wp2_with fail
  refine (pick_any _ R0 (by omega) (by omega) (by omega)).mono ?_
  rintro e w1 ⟨⟨v1, rfl, v10, v11⟩, s1⟩
  have R1 := R0.step s1
  have T1 := T0.stepped s1 hne
  have O1 := O0.stepped s1
  clear R0 T0 O0 s1
  go_wp2_with fail
  refine (pick_any _ R1 (by omega) (by omega) (by omega)).mono ?_
  rintro e w2 ⟨⟨v2, rfl, v20, v21⟩, s2⟩
  have R2 := R1.step s2
  have T2 := T1.stepped s2 hne
  have O2 := O1.stepped s2
  clear R1 T1 O1 s2
  go_wp2_with fail
  refine (pick_any _ R2 (by omega) (by omega) (by omega)).mono ?_
  rintro e w3 ⟨⟨v3, rfl, v30, v31⟩, s3⟩
  have R3 := R2.step s3
  have T3 := T2.stepped s3 hne
  have O3 := O2.stepped s3
  clear R2 T2 O2 s3
  go_wp2_with fail
  refine (pick_any _ R3 (by omega) (by omega) (by omega)).mono ?_
  rintro e w4 ⟨⟨v4, rfl, v40, v41⟩, s4⟩
  have R4 := R3.step s4
  have T4 := T3.stepped s4 hne
  have O4 := O3.stepped s4
  clear R3 T3 O3 s4
  have hl4 := R4.lt
  go_wp2_with fail
  refine (one_any (R4.below ((Below.refl _ _).alloc (Nat.le_refl _) (.cells #[.int .i64 v1, .int .i64 (v2 * 256 + v3), .int .i64 99999999, .int .i64 0, .int .i64 (-v4), .int .i64 25, .int .i64 (-99999999)] 3))) (by omega) w4.heap.size 7 [v1, v2 * 256 + v3, 99999999, 0, -v4, 25, -99999999] (by omega) rfl (by omega) (by omega) (cells_list w4 [v1, v2 * 256 + v3, 99999999, 0, -v4, 25, -99999999] 3)).mono ?_
  rintro e w5 ⟨⟨m, rfl, hm⟩, s5⟩
  have R5 := (R4.below ((Below.refl _ _).alloc (Nat.le_refl _) (.cells #[.int .i64 v1, .int .i64 (v2 * 256 + v3), .int .i64 99999999, .int .i64 0, .int .i64 (-v4), .int .i64 25, .int .i64 (-99999999)] 3))).step s5
  have T5 := (T4.alloc (by have := O4.1; have := World.block_lt_of_cell? w4 _ T4.1; omega) (.cells #[.int .i64 v1, .int .i64 (v2 * 256 + v3), .int .i64 99999999, .int .i64 0, .int .i64 (-v4), .int .i64 25, .int .i64 (-99999999)] 3)).stepped s5 hne
  have O5 := (O4.alloc (.cells #[.int .i64 v1, .int .i64 (v2 * 256 + v3), .int .i64 99999999, .int .i64 0, .int .i64 (-v4), .int .i64 25, .int .i64 (-99999999)] 3)).stepped s5
  have hmb : -99999999 ≤ m ∧ m ≤ 99999999 := by simp at hm; omega
  obtain ⟨mb1, mb2⟩ := hmb
  clear R4 T4 O4 s5 hm v10 v11 v20 v21 v30 v31 v40 v41 hl4
  have hl5 := R5.lt
  go_wp2_with fail
  refine (one_any (R5.below ((Below.refl _ _).alloc (Nat.le_refl _) (.cells #[.int .i64 0, .int .i64 0, .int .i64 (-1), .int .i64 (-2), .int .i64 2, .int .i64 (-8), .int .i64 8] 3))) (by omega) w5.heap.size 7 [0, 0, -1, -2, 2, -8, 8] (by omega) rfl (by omega) (by omega) (cells_list w5 [0, 0, -1, -2, 2, -8, 8] 3)).mono ?_
  rintro e w6 ⟨⟨x, rfl, hx⟩, s6⟩
  have R6 := (R5.below ((Below.refl _ _).alloc (Nat.le_refl _) (.cells #[.int .i64 0, .int .i64 0, .int .i64 (-1), .int .i64 (-2), .int .i64 2, .int .i64 (-8), .int .i64 8] 3))).step s6
  have T6 := (T5.alloc (World.block_lt_of_cell? _ _ T5.1) (.cells #[.int .i64 0, .int .i64 0, .int .i64 (-1), .int .i64 (-2), .int .i64 2, .int .i64 (-8), .int .i64 8] 3)).stepped s6 hne
  have O6 := (O5.alloc (.cells #[.int .i64 0, .int .i64 0, .int .i64 (-1), .int .i64 (-2), .int .i64 2, .int .i64 (-8), .int .i64 8] 3)).stepped s6
  have hxb : -8 ≤ x ∧ x ≤ 8 := by simp at hx; omega
  obtain ⟨xb1, xb2⟩ := hxb
  clear R5 T5 O5 s6 hx hl5
  go_wp2_with fail
  refine (l1New_any _ _ _ (by omega) (by omega) (by omega) (by omega)).mono ?_
  rintro e w7 ⟨rfl, hb7⟩
  have R7 := R6.below hb7
  have T7 := T6.below hb7 (World.block_lt_of_cell? _ _ T6.1)
  have O7 := O6.below hb7
  have HNO := hideItU (@Dm.norm_ok m x)
  have HNB := hideItU (Dm.norm_i64 m x)
  clear R6 T6 O6 hb7
  generalize Dm.norm m x = r at *
  obtain ⟨rm, rx, rb⟩ := r
  obtain ⟨c0, c1, f0, f1⟩ := id T7
  have hl7 : W.heap.size < w7.heap.size := World.block_lt_of_cell? _ _ T7.1
  have hB := R7.2.1
  cases rb
  · clear T7
    go_wp2_with fail
    refine bodyPost_ret (v := .agg #[.int .i64 1, .int .i64 0]) (by simp (maxDischargeDepth := 6) [results, Try.results76, go_sem, c0, c1]) rfl ⟨1, 0, p + 1 + 1 + 1 + 1 + 1 + 1, rfl, rfl, by omega, by omega, by omega, by omega, ?_, ?_, ?_⟩
    · omega
    · exact (Rd.set (Rd.set R7 (by omega) (by omega) _) (by omega) (by omega) _).below ((Below.refl _ _).alloc (Nat.le_refl _) _)
    · exact (Otb.set (Otb.set O7 (by omega) _) (by omega) _).alloc _
  · have hok := HNO.out rfl
    simp only at hok
    obtain ⟨k1, k2, k3, k4⟩ := Dm.ok_bd hok
    have HOK := hideItU hok
    clear T7 HNO HNB hok
    go_wp2_with fail
    refine bodyPost_ret (v := .agg #[.int .i64 rm, .int .i64 rx]) (by simp (maxDischargeDepth := 6) [results, Try.results76, go_sem, c0, c1]) rfl ⟨rm, rx, p + 1 + 1 + 1 + 1 + 1 + 1, rfl, HOK.out, by omega, by omega, by omega, by omega, ?_, ?_, ?_⟩
    · omega
    · exact (Rd.set (Rd.set R7 (by omega) (by omega) _) (by omega) (by omega) _).below ((Below.refl _ _).alloc (Nat.le_refl _) _)
    · exact (Otb.set (Otb.set O7 (by omega) _) (by omega) _).alloc _


end Go.Proofs.Ytfgchdnpbbgmjaa
/- Contracts over values: the laws' own copy of a value. -/
namespace Go.Proofs.Ytfgchdnpbbgmjaa
open Go.RowKit
attribute [local go_sem] cell_alloc_is frozen_alloc_is
end Go.Proofs.Ytfgchdnpbbgmjaa
/- Contracts over values: the laws' own comparison, of two values that are alike. -/
namespace Go.Proofs.Ytfgchdnpbbgmjaa
open Go.RowKit
attribute [local go_sem] cell_alloc_is frozen_alloc_is
end Go.Proofs.Ytfgchdnpbbgmjaa
/- Maps whose keys are places of lists: an entry found or made, and written by its stamp ('m[k]++'). -/
namespace Go.Proofs.Ytfgchdnpbbgmjaa
open Go.RowKit
section
variable {K : Type} [DecidableEq K] {P : Program} {kt : TypeId} (Q : Keys K P kt)
/-- the stamps of the entries are below the clock, no two alike -/
def Stamps (es : List MapEntry) (clock : Nat) : Prop := (∀ e ∈ es, e.born < clock) ∧ es.Pairwise (fun a b => a.born ≠ b.born)
/-- block b is the map of these keys and values, rightly stamped -/
def Keys.Has (w : World) (b : Nat) (L : List (K × Value)) : Prop := ∃ es clock, w.heap[b]? = some (.map es clock) ∧ es.toList.map (fun e => (e.key, e.val)) = L.map (fun p => (Q.kv p.1, p.2)) ∧ Stamps es.toList clock
theorem Keys.Has.is {w : World} {b : Nat} {L : List (K × Value)} (h : Q.Has w b L) : Q.Is w b L := by
  obtain ⟨es, clock, h1, h2, _⟩ := h
  exact ⟨es, clock, h1, h2⟩
theorem Keys.Has.same {w w' : World} {b : Nat} {L : List (K × Value)} (h : Q.Has w b L) (hb : w'.heap[b]? = w.heap[b]?) : Q.Has w' b L := by
  obtain ⟨es, clock, h1, h2⟩ := h
  exact ⟨es, clock, hb.trans h1, h2⟩
/-- the entry of a key, by its stamp -/
def Keys.Stamp (w : World) (b : Nat) (x : K) (s : Nat) (L : List (K × Value)) : Prop := ∃ es clock n e, w.heap[b]? = some (.map es clock) ∧ es.toList.map (fun e => (e.key, e.val)) = L.map (fun p => (Q.kv p.1, p.2)) ∧ Stamps es.toList clock ∧ seekL x L 0 = some (n, e.val) ∧ es[n]? = some e ∧ e.born = s
theorem stamp_find {es : Array MapEntry} {clock n : Nat} {e : MapEntry} (hs : Stamps es.toList clock) (he : es[n]? = some e) : es.findIdx? (fun x => (x.born : Int) == (e.born : Int)) = some n := by
  obtain ⟨hn, hen⟩ := Array.getElem?_eq_some_iff.1 he
  rw [Array.findIdx?_eq_some_iff_getElem]
  refine ⟨hn, by rw [hen]; simp, fun j hj => ?_⟩
  have hp := List.pairwise_iff_getElem.1 hs.2 j n (by simpa using Nat.lt_trans hj hn) (by simpa using hn) hj
  simp only [Array.getElem_toList] at hp
  rw [hen] at hp
  simp
  omega
theorem map_modify {es : Array MapEntry} {L : List (K × Value)} (he : es.toList.map (fun e => (e.key, e.val)) = L.map (fun p => (Q.kv p.1, p.2))) {n : Nat} {x : K} {v : Value} {f : MapEntry → MapEntry} {e : MapEntry} (hen : es[n]? = some e) (hf : ((f e).key, (f e).val) = (Q.kv x, v)) (hl : n < L.length) :
    (es.modify n f).toList.map (fun e => (e.key, e.val)) = (L.set n (x, v)).map (fun p => (Q.kv p.1, p.2)) := by
  apply List.ext_getElem?
  intro i
  have hi : (es.toList.map (fun e => (e.key, e.val)))[i]? = (L.map (fun p => (Q.kv p.1, p.2)))[i]? := by rw [he]
  rw [List.getElem?_map, List.getElem?_map, Array.getElem?_toList] at hi
  rw [List.getElem?_map, List.getElem?_map, Array.getElem?_toList, Array.getElem?_modify, List.getElem?_set]
  by_cases hij : n = i
  · subst hij
    rw [if_pos rfl, if_pos rfl, if_pos hl, hen]
    exact congrArg some hf
  · rw [if_neg hij, if_neg hij]; exact hi
theorem stamps_modify {es : Array MapEntry} {clock n : Nat} {f : MapEntry → MapEntry} (hs : Stamps es.toList clock) (hf : ∀ e, (f e).born = e.born) : Stamps (es.modify n f).toList clock := by
  have hb : (es.modify n f).toList.map (·.born) = es.toList.map (·.born) := by
    apply List.ext_getElem?
    intro i
    rw [List.getElem?_map, List.getElem?_map, Array.getElem?_toList, Array.getElem?_toList, Array.getElem?_modify]
    by_cases hij : n = i
    · rw [if_pos hij]; cases es[i]? with
      | none => rfl
      | some e => exact congrArg some (hf e)
    · rw [if_neg hij]
  refine ⟨fun e he => ?_, ?_⟩
  · have : e.born ∈ (es.modify n f).toList.map (·.born) := List.mem_map.2 ⟨e, he, rfl⟩
    rw [hb] at this
    obtain ⟨e', he', h⟩ := List.mem_map.1 this
    rw [← h]; exact hs.1 e' he'
  · have h1 : (es.toList.map (·.born)).Pairwise (· ≠ ·) := List.pairwise_map.2 hs.2
    rw [← hb] at h1
    exact List.pairwise_map.1 h1
theorem seekL_append {x : K} {z : Value} : ∀ {L : List (K × Value)} {i : Nat}, seekL x L i = none → seekL x (L ++ [(x, z)]) i = some (i + L.length, z) := by
  intro L
  induction L with
  | nil => intro i _; show (if x = x then some (i, z) else _) = _; rw [if_pos rfl]; rfl
  | cons p t ih =>
    obtain ⟨k, u⟩ := p
    intro i h
    unfold seekL at h
    by_cases hk : x = k
    · rw [if_pos hk] at h; cases h
    · rw [if_neg hk] at h
      show (if x = k then some (i, u) else seekL x (t ++ [(x, z)]) (i + 1)) = _
      rw [if_neg hk, ih h, List.length_cons]
      congr 2
      omega
theorem seekL_set {x : K} {v : Value} : ∀ {L : List (K × Value)} {i n : Nat} {u : Value}, seekL x L i = some (i + n, u) → seekL x (L.set n (x, v)) i = some (i + n, v) := by
  intro L
  induction L with
  | nil => intro i n u h; cases h
  | cons p t ih =>
    obtain ⟨k, u'⟩ := p
    intro i n u h
    unfold seekL at h
    by_cases hk : x = k
    · rw [if_pos hk] at h
      simp only [Option.some.injEq, Prod.mk.injEq] at h
      have h0 : n = 0 := by omega
      subst h0
      show (if x = x then some (i, v) else _) = _
      rw [if_pos rfl]; rfl
    · rw [if_neg hk] at h
      obtain ⟨n', _, e1, _⟩ := seekL_some h
      obtain ⟨n2, rfl⟩ : ∃ n2, n = n2 + 1 := ⟨n - 1, by omega⟩
      show (if x = k then some (i, u') else seekL x (t.set n2 (x, v)) (i + 1)) = _
      rw [if_neg hk, show i + (n2 + 1) = i + 1 + n2 by omega]
      exact ih (by rw [h, show i + (n2 + 1) = i + 1 + n2 by omega])
theorem seekL_at {x : K} : ∀ {L : List (K × Value)} {i j : Nat} {v u : Value}, seekL x L i = some (i + j, v) → L[j]? = some (x, u) → u = v := by
  intro L
  induction L with
  | nil => intro i j v u h; cases h
  | cons p t ih =>
    obtain ⟨k, u'⟩ := p
    intro i j v u h h2
    unfold seekL at h
    by_cases hk : x = k
    · rw [if_pos hk] at h
      simp only [Option.some.injEq, Prod.mk.injEq] at h
      have h0 : j = 0 := by omega
      subst h0
      simp at h2
      rw [← h2.2]; exact h.2
    · rw [if_neg hk] at h
      obtain ⟨n', _, e1, _⟩ := seekL_some h
      obtain ⟨j2, rfl⟩ : ∃ j2, j = j2 + 1 := ⟨j - 1, by omega⟩
      exact ih (i := i + 1) (by rw [h, show i + (j2 + 1) = i + 1 + j2 by omega]) (by simpa using h2)
theorem Keys.entry {mty et : TypeId} (hm : P.underlying mty = some (.map kt et)) {w : World} {b : Nat} {L : List (K × Value)} (x : K) (hx : Q.ok w x) (hok : ∀ p ∈ L, Q.ok w p.1) (hb : Q.Has w b L) {z : Value} (hz : (zeroValue et).run P w = .ok z w) :
    ∃ w' s, (Instr.mapEntry mty (.map (some b)) (Q.kv x)).run P w = .ok (.tuple #[(getL x L).getD z, .int .i64 (s : Nat)]) w' ∧ Q.Stamp w' b x s (putL x ((getL x L).getD z) L) ∧ w.grownBy w' (some b) ∧ w'.heap.size = w.heap.size := by
  obtain ⟨es, clock, hh, he, hst⟩ := hb
  have hf := Q.find w x hx L es.toList hok he
  have hg := seekL_get x L 0
  cases h : seekL x L 0 with
  | none =>
    rw [h] at hf hg
    have hg' : getL x L = none := hg.symm
    rw [hg']
    refine ⟨{ w with heap := w.heap.setIfInBounds b (.map (es.push { key := Q.kv x, val := z, born := clock }) (clock + 1)) }, clock, by simp [Instr.mapEntry, run_underlying hm, MapKept.run_getObj_map hh, Q.check, hf, hz, MapKept.run_setObj_map _ hh, Result.andThen, goInt], ?_, ⟨rfl, rfl, rfl, by simp, fun i _ hi => (MapKept.heap_set hh).2 i (fun e => hi (by rw [e]))⟩, by simp⟩
    refine ⟨es.push { key := Q.kv x, val := z, born := clock }, clock + 1, es.size, { key := Q.kv x, val := z, born := clock }, (MapKept.heap_set hh).1, ?_, ?_, ?_, by simp, rfl⟩
    · rw [seekL_none h, Array.toList_push, List.map_append, he, List.map_append]; rfl
    · refine ⟨fun e hee => ?_, ?_⟩
      · rw [Array.toList_push, List.mem_append] at hee
        rcases hee with hee | hee
        · exact Nat.lt_succ_of_lt (hst.1 e hee)
        · rw [List.mem_singleton] at hee; subst hee; exact Nat.lt_succ_self _
      · rw [Array.toList_push, List.pairwise_append]
        refine ⟨hst.2, List.pairwise_singleton _ _, fun a ha c hc => ?_⟩
        rw [List.mem_singleton] at hc; subst hc
        exact Nat.ne_of_lt (hst.1 a ha)
    · show seekL x (putL x z L) 0 = some (es.size, z)
      rw [seekL_none h]
      have hlen : es.size = L.length := by have := congrArg List.length he; simpa using this
      rw [hlen]
      rw [seekL_append h, Nat.zero_add]
  | some p =>
    obtain ⟨j, u⟩ := p
    rw [h] at hf hg
    have hg' : getL x L = some u := hg.symm
    rw [hg']
    obtain ⟨n, u', e1, e2, e3⟩ := seekL_some h
    rw [Nat.zero_add] at e1
    subst e1
    have hl : j < L.length := (List.getElem?_eq_some_iff.1 e2).1
    have hlen : es.size = L.length := by have := congrArg List.length he; simpa using this
    obtain ⟨en, hen⟩ : ∃ en, es[j]? = some en := ⟨es[j]'(by omega), Array.getElem?_eq_getElem (by omega)⟩
    have hpair : (en.key, en.val) = (Q.kv x, u') := by
      have h1 : (es.toList.map (fun e => (e.key, e.val)))[j]? = some (Q.kv x, u') := by rw [he, List.getElem?_map, e2]; rfl
      rw [List.getElem?_map, Array.getElem?_toList, hen] at h1
      exact Option.some.inj h1
    simp only [Prod.mk.injEq] at hpair
    have huu : u' = u := by
      exact seekL_at (i := 0) (by rw [Nat.zero_add]; exact h) e2
    subst huu
    have hks : (Instr.keyThatStays en.key (Q.kv x)).run P w = .ok (Q.kv x) w := by simp [Instr.keyThatStays, hpair.1, Q.bits]
    refine ⟨{ w with heap := w.heap.setIfInBounds b (.map (es.modify j fun e => { e with key := Q.kv x }) clock) }, en.born, by simp [Instr.mapEntry, run_underlying hm, MapKept.run_getObj_map hh, Q.check, hf, hen, hks, MapKept.run_setObj_map _ hh, Result.andThen, goInt], ?_, ⟨rfl, rfl, rfl, by simp, fun i _ hi => (MapKept.heap_set hh).2 i (fun e => hi (by rw [e]))⟩, by simp⟩
    refine ⟨es.modify j fun e => { e with key := Q.kv x }, clock, j, { en with key := Q.kv x }, (MapKept.heap_set hh).1, ?_, stamps_modify hst (fun e => rfl), ?_, ?_, rfl⟩
    · show _ = ((putL x u' L)).map _
      rw [e3]
      exact map_modify Q he hen (by rw [hpair.2]) hl
    · show seekL x (putL x u' L) 0 = some (j, en.val)
      rw [e3, hpair.2]
      have h2 : seekL x L 0 = some (0 + j, u') := by rw [Nat.zero_add]; exact h
      rw [seekL_set h2, Nat.zero_add]
    · rw [Array.getElem?_modify, if_pos rfl, hen]; rfl
/-- the entry is written -/
theorem Keys.store {mty : TypeId} {w : World} {b : Nat} {L : List (K × Value)} {x : K} {s : Nat} (h : Q.Stamp w b x s L) (v : Value) :
    ∃ w', (Instr.entryStore mty (.map (some b)) (.int .i64 (s : Nat)) v).run P w = .ok () w' ∧ Q.Has w' b (putL x v L) ∧ w.grownBy w' (some b) ∧ w'.heap.size = w.heap.size := by
  obtain ⟨es, clock, n, e, hh, he, hst, hsk, hen, hbo⟩ := h
  have hfi := stamp_find hst hen
  rw [hbo] at hfi
  obtain ⟨n', u', e1, e2, e3⟩ := seekL_some hsk
  rw [Nat.zero_add] at e1
  subst e1
  have hl : n < L.length := (List.getElem?_eq_some_iff.1 e2).1
  refine ⟨{ w with heap := w.heap.setIfInBounds b (.map (es.modify n fun e => { e with val := v }) clock) }, by simp [Instr.entryStore, MapKept.run_getObj_map hh, asInt, asIntOf, hfi, MapKept.run_setObj_map _ hh, Result.andThen], ?_, ⟨rfl, rfl, rfl, by simp, fun i _ hi => (MapKept.heap_set hh).2 i (fun e => hi (by rw [e]))⟩, by simp⟩
  refine ⟨es.modify n fun e => { e with val := v }, clock, (MapKept.heap_set hh).1, ?_, stamps_modify hst (fun e => rfl)⟩
  rw [e3]
  have hpair : (e.key, e.val) = (Q.kv x, u') := by
    have h1 : (es.toList.map (fun e => (e.key, e.val)))[n]? = some (Q.kv x, u') := by rw [he, List.getElem?_map, e2]; rfl
    rw [List.getElem?_map, Array.getElem?_toList, hen] at h1
    exact Option.some.inj h1
  simp only [Prod.mk.injEq] at hpair
  exact map_modify Q he hen (by rw [hpair.1]) hl
end
end Go.Proofs.Ytfgchdnpbbgmjaa
/- Two trees that are the same, by the program: the row of pairs that are to be done. -/
namespace Go.Proofs.Ytfgchdnpbbgmjaa
open Go.RowKit
end Go.Proofs.Ytfgchdnpbbgmjaa
/- Two trees that are the same, by the program: keys that can be held against each other, and a measure that is read off a relation. -/
namespace Go.Proofs.Ytfgchdnpbbgmjaa
open Go.RowKit
/-- all lists below lie in cells that are not frozen -/
def Fo.Cl (w : World) : Fo → Prop
  | .nil => True
  | .cons _ _ _ _ a _ kids next => PlOk w (plOf a kids.len) ∧ kids.Cl w ∧ next.Cl w
def It.Good (w : World) (x : It) : Prop := PlOk w x.pl ∧ x.F.Cl w
theorem Fo.Cl.at {w : World} : ∀ {F : Fo}, F.Cl w → ∀ {i : Nat}, i < F.len → (F.itAt i).Good w := by
  intro F
  induction F with
  | nil => intro _ i hi; exact absurd hi (Nat.not_lt_zero _)
  | cons k t m e a c kids next _ ih =>
    rintro ⟨h1, h2, h3⟩ i hi
    cases i with
    | zero => exact ⟨h1, h2⟩
    | succ i => exact ih h3 (Nat.lt_of_succ_lt_succ hi)
theorem PlOk.below {w w' : World} {p : Pl} (h : PlOk w p) (hb : Below w.heap.size w w') : PlOk w' p := by
  rcases h with h | ⟨a, cs, t, h1, h2⟩
  · exact .inl h
  · exact .inr ⟨a, cs, t, h1, (hb.block _ (Array.getElem?_eq_some_iff.1 h2).1).trans h2⟩
theorem grown_cell {w w' : World} {r : Option Nat} (h : w.grownBy w' r) {b : Nat} (o : Nat) (hb : b < w.heap.size) (hn : some b ≠ r) : w'.cell? ⟨b, o, none⟩ = w.cell? ⟨b, o, none⟩ := World.cell?_of_block (a := ⟨b, o, none⟩) (h.block b hb hn)
theorem exists_least {P : Nat → Prop} (h : ∃ n, P n) : ∃ n, P n ∧ ∀ m, P m → n ≤ m := by
  obtain ⟨n, hn⟩ := h
  induction n using Nat.strongRecOn with
  | ind n ih =>
    by_cases hm : ∃ m, m < n ∧ P m
    · obtain ⟨m, h1, h2⟩ := hm; exact ih m h1 h2
    · exact ⟨n, hn, fun m hP => Nat.le_of_not_lt fun h => hm ⟨m, h, hP⟩⟩
open Classical in
/-- the least number of which something holds -/
noncomputable def least (P : Nat → Prop) : Nat := if h : ∃ n, P n then Classical.choose (exists_least h) else 0
end Go.Proofs.Ytfgchdnpbbgmjaa
/- Two trees that are the same, by the program: the region that counts a pair of lists. -/
namespace Go.Proofs.Ytfgchdnpbbgmjaa
open Go.RowKit
/-- four cells of a block -/
abbrev FourC (b : Nat) (v0 v1 v2 v3 : Value) (w : World) : Prop := w.cell? ⟨b, 0, none⟩ = some v0 ∧ w.cell? ⟨b, 1, none⟩ = some v1 ∧ w.cell? ⟨b, 2, none⟩ = some v2 ∧ w.cell? ⟨b, 3, none⟩ = some v3
theorem FourC.grown {w w' : World} {r : Option Nat} (h : w.grownBy w' r) {b : Nat} {v0 v1 v2 v3 : Value} (hn : some b ≠ r) (f : FourC b v0 v1 v2 v3 w) : FourC b v0 v1 v2 v3 w' := by
  have hb : b < w.heap.size := World.block_lt_of_cell? _ _ f.1
  exact ⟨(grown_cell h 0 hb hn).trans f.1, (grown_cell h 1 hb hn).trans f.2.1, (grown_cell h 2 hb hn).trans f.2.2.1, (grown_cell h 3 hb hn).trans f.2.2.2⟩
theorem PlOk.grown {w w' : World} {p : Pl} {mb clock : Nat} {es : Array MapEntry} (h : PlOk w p) (hg : w.grownBy w' (some mb)) (hm : w.heap[mb]? = some (.map es clock)) : PlOk w' p := by
  rcases h with h | ⟨a, cs, t, h1, h2⟩
  · exact .inl h
  · refine .inr ⟨a, cs, t, h1, (hg.block _ (Array.getElem?_eq_some_iff.1 h2).1 (fun e => ?_)).trans h2⟩
    have e' := Option.some.inj e
    rw [e', hm] at h2
    cases h2
end Go.Proofs.Ytfgchdnpbbgmjaa
/- Two values that are the same, by the program: keys that are places of lists of values; heads that are the same. -/
namespace Go.Proofs.Ytfgchdnpbbgmjaa
open Go.RowKit
set_option maxHeartbeats 400000 in
theorem belowV_any (h : Hd) (a : Option Addr) (n c : Nat) (w : World) :
    Calls Try.prog 157 #[valV h a n c] w fun r w' => r = .returned (.slice a n c) ∧ Below w.heap.size w w' := by
  go_enter Try.func157, Try.ntmps157
  go_wp2_with fail
  go_ret
  exact ⟨rfl, (Below.refl _ w).alloc (Nat.le_refl _) _⟩
/-- which function the values' own is -/
theorem belowV_method (v : Value) (W : World) : (method 282 28 v "loop.example/chancery/impl.below").run Try.prog W = .ok (157, v) W := by kernel_rfl
instance (h g : Hd) : Decidable (h.same g) := by unfold Hd.same; infer_instance
/-- heads that are the same -/
def headSameV (h : Hd) (n : Nat) (g : Hd) (n' : Nat) : Bool := decide (h.same g ∧ n = n')
set_option maxRecDepth 100000 in
set_option maxHeartbeats 1000000 in
theorem sameHeadV_any (h g : Hd) (a a2 : Option Addr) (n c n2 c2 : Nat) (w : World) (hh : h.In w) (hg : g.In w) :
    Calls Try.prog 87 #[valV h a n c, valV g a2 n2 c2] w fun r w' => r = .returned (.bool (headSameV h n g n2)) ∧ Below w.heap.size w w' := by
  obtain ⟨k, m, e, t, na, nc, ns⟩ := h
  obtain ⟨k', m', e', t', na', nc', ns'⟩ := g
  have hB := ((Below.refl _ w).alloc (Nat.le_refl _) (.cells #[.int .i64 k, .int .i64 m, .int .i64 e, .string t, .slice a n c, .slice na ns.length nc] 28)).alloc (by simp) (.cells #[.int .i64 k', .int .i64 m', .int .i64 e', .string t', .slice a2 n2 c2, .slice na' ns'.length nc'] 28)
  have no : ∀ (P : Prop), (¬ ((⟨k, m, e, t, na, nc, ns⟩ : Hd).same ⟨k', m', e', t', na', nc', ns'⟩ ∧ n = n2)) → headSameV ⟨k, m, e, t, na, nc, ns⟩ n ⟨k', m', e', t', na', nc', ns'⟩ n2 = false := fun _ h => decide_eq_false h
  by_cases h1 : k = k'
  · subst h1
    by_cases h2 : m = m'
    · subst h2
      by_cases h3 : e = e'
      · subst h3
        by_cases h4 : t = t'
        · subst h4
          by_cases h5 : n = n2
          · subst h5
            have HI : Hid ((SIn w ns na ∧ SIn w ns' na') ∧ ns.length ≤ nc ∧ nc ≤ maxLen ∧ ns'.length ≤ nc') := ⟨⟨hh.1, hg.1⟩, hh.2.1.1, hh.2.1.2, hg.2.1.1⟩
            have HE : Hid (headSameV ⟨k, m, e, t, na, nc, ns⟩ n ⟨k, m, e, t, na', nc', ns'⟩ n = decide (ns = ns')) := by
              unfold Hid headSameV Hd.same
              simp
            clear hh hg no
            go_enter Try.func87, Try.ntmps87
            go_wp2_with fail
            refine (equalS_any ns ns' na na' nc nc' _ (HI.out.1.1.grow hB) (HI.out.1.2.grow hB) HI.out.2.1 HI.out.2.2.1 HI.out.2.2.2).mono ?_
            rintro r w1 ⟨rfl, hb1⟩
            have hB1 := hB.trans (hb1.mono hB.size)
            generalize hq : decide (ns = ns') = q
            rw [hq] at HE
            clear hq
            go_wp2_with fail
            go_ret
            exact ⟨by rw [HE.out]; rfl, hB1⟩
          · have HN : Hid _ := no True (fun x => h5 x.2)
            have h5' : ¬ (n : Int) = (n2 : Int) := by omega
            clear hh hg no
            go_enter Try.func87, Try.ntmps87
            go_wp2_with fail
            go_ret
            exact ⟨by rw [HN.out]; rfl, hB⟩
        · have HN : Hid _ := no True (fun x => h4 x.1.1.2.2.2)
          have h4' : (t.toList == t'.toList) = false := by have := text_ne h4; simpa using this
          clear hh hg no
          go_enter Try.func87, Try.ntmps87
          go_wp2_with fail
          go_ret
          exact ⟨by rw [HN.out]; rfl, hB⟩
      · have HN : Hid _ := no True (fun x => h3 x.1.1.2.2.1)
        clear hh hg no
        go_enter Try.func87, Try.ntmps87
        go_wp2_with fail
        go_ret
        exact ⟨by rw [HN.out]; rfl, hB⟩
    · have HN : Hid _ := no True (fun x => h2 x.1.1.2.1)
      clear hh hg no
      go_enter Try.func87, Try.ntmps87
      go_wp2_with fail
      go_ret
      exact ⟨by rw [HN.out]; rfl, hB⟩
  · have HN : Hid _ := no True (fun x => h1 x.1.1.1)
    clear hh hg no
    go_enter Try.func87, Try.ntmps87
    go_wp2_with fail
    go_ret
    exact ⟨by rw [HN.out]; rfl, hB⟩
end Go.Proofs.Ytfgchdnpbbgmjaa
/- Two values that are the same, by the program: the pairs of two lists. -/
namespace Go.Proofs.Ytfgchdnpbbgmjaa
open Go.RowKit
def Hd.cells (h : Hd) (a : Option Addr) (n c : Nat) : List Value := [.int .i64 h.k, .int .i64 h.m, .int .i64 h.e, .string h.t, .slice a n c, .slice h.na h.ns.length h.nc]
end Go.Proofs.Ytfgchdnpbbgmjaa
/- Two values that are the same: what the program's loop keeps, as plain mathematics. -/
namespace Go.Proofs.Ytfgchdnpbbgmjaa
/-- a value as it stands in a list: its head, where its list lies, that list -/
structure ItV where
  h : Hd
  a : Option Addr
  F : Vo
  c : Nat
def ItV.cells (x : ItV) : List Value := x.h.cells x.a x.F.len x.c
def Vo.itAt (F : Vo) (i : Nat) : ItV := ⟨F.hdAt i, F.addrAt i, F.kidsAt i, F.capAt i⟩
abbrev It2V := ItV × ItV
def hsameV (p : It2V) : Bool := headSameV p.1.h p.1.F.len p.2.h p.2.F.len
/-- two values are the same but for where they lie -/
def same2V (p : It2V) : Prop := p.1.h.same p.2.h ∧ p.1.F.alike p.2.F
theorem hsame_iffV (p : It2V) : hsameV p = true ↔ p.1.h.same p.2.h ∧ p.1.F.len = p.2.F.len := by
  unfold hsameV headSameV
  exact decide_eq_true_iff
theorem alike_kidsV : ∀ {G F : Vo}, F.alike G → ∀ i, i < F.len → same2V (F.itAt i, G.itAt i) := by
  intro G
  induction G with
  | nil => intro F h i hi; rw [Vo.alike_nil h] at hi; exact absurd hi (Nat.not_lt_zero _)
  | cons g a c kids next _ ih =>
    intro F h i hi
    obtain ⟨g', a', c', kids', next', rfl, h0, h1, h2⟩ := Vo.alike_cons h
    cases i with
    | zero => exact ⟨h0, h1⟩
    | succ i => exact ih h2 i (Nat.lt_of_succ_lt_succ hi)
theorem alike_of_kidsV : ∀ {F G : Vo}, F.len = G.len → (∀ i, i < F.len → same2V (F.itAt i, G.itAt i)) → F.alike G := by
  intro F
  induction F with
  | nil => intro G h _; cases G with
    | nil => trivial
    | cons => exact absurd h.symm (Nat.succ_ne_zero _)
  | cons g a c kids next _ ih =>
    intro G h hk
    cases G with
    | nil => exact absurd h (Nat.succ_ne_zero _)
    | cons g' a' c' kids' next' =>
      obtain ⟨h1, h2⟩ := hk 0 (Nat.succ_pos _)
      exact ⟨h1, h2, ih (Nat.succ.inj h) fun i hi => hk (i + 1) (Nat.succ_lt_succ hi)⟩
/-- what is closed is the same all through -/
theorem closed_sameV (X : It2V → Prop) (h : ∀ p, X p → hsameV p = true ∧ ∀ i, i < p.1.F.len → X (p.1.F.itAt i, p.2.F.itAt i)) (N : Nat) : ∀ p, p.1.F.size < N → X p → same2V p := by
  induction N with
  | zero => intro p hp; omega
  | succ N ih =>
    intro p hp hX
    obtain ⟨h1, h2⟩ := h p hX
    obtain ⟨h3, h4⟩ := (hsame_iffV p).1 h1
    exact ⟨h3, alike_of_kidsV h4 fun i hi => ih _ (by have := Vo.size_at hi; show (p.1.F.kidsAt i).size < N; omega) (h2 i hi)⟩
/-- where a tree's list lies -/
def ItV.pl (x : ItV) : Pl := plOf x.a x.F.len
/-- the pairs of two lists -/
def kidPairsV (F G : Vo) : Nat → List It2V
  | 0 => []
  | n + 1 => kidPairsV F G n ++ [(F.itAt n, G.itAt n)]
theorem kidPairs_memV {F G : Vo} {n : Nat} {p : It2V} : p ∈ kidPairsV F G n ↔ ∃ i, i < n ∧ p = (F.itAt i, G.itAt i) := by
  induction n with
  | zero =>
    constructor
    · intro h; exact absurd h (List.not_mem_nil)
    · rintro ⟨i, h, _⟩; exact absurd h (Nat.not_lt_zero _)
  | succ n ih =>
    show p ∈ kidPairsV F G n ++ [(F.itAt n, G.itAt n)] ↔ _
    rw [List.mem_append, ih, List.mem_singleton]
    constructor
    · rintro (⟨i, hi, h⟩ | h)
      · exact ⟨i, by omega, h⟩
      · exact ⟨n, by omega, h⟩
    · rintro ⟨i, hi, h⟩
      rcases Nat.lt_succ_iff_lt_or_eq.1 hi with hi | rfl
      · exact .inl ⟨i, hi, h⟩
      · exact .inr h
/-- how much is to be done -/
def wsumV : List It2V → Nat
  | [] => 0
  | p :: t => p.1.F.size + 1 + wsumV t
theorem wsum_appendV (A B : List It2V) : wsumV (A ++ B) = wsumV A + wsumV B := by
  induction A with
  | nil => show wsumV B = 0 + wsumV B; omega
  | cons p t ih => show p.1.F.size + 1 + wsumV (t ++ B) = p.1.F.size + 1 + wsumV t + wsumV B; omega
def Vo.upTo (F : Vo) : Nat → Nat
  | 0 => 0
  | n + 1 => F.upTo n + ((F.kidsAt n).size + 1)
theorem wsum_kidsV (F G : Vo) (n : Nat) : wsumV (kidPairsV F G n) = F.upTo n := by
  induction n with
  | zero => rfl
  | succ n ih => show wsumV (kidPairsV F G n ++ [(F.itAt n, G.itAt n)]) = F.upTo n + ((F.kidsAt n).size + 1); rw [wsum_appendV, ih]; rfl
theorem upTo_nextV (h : Hd) (a : Option Addr) (c : Nat) (kids next : Vo) (n : Nat) : (Vo.cons h a c kids next).upTo (n + 1) = kids.size + 1 + next.upTo n := by
  induction n with
  | zero => show 0 + (kids.size + 1) = kids.size + 1 + 0; omega
  | succ n ih => show (Vo.cons h a c kids next).upTo (n + 1) + ((next.kidsAt n).size + 1) = kids.size + 1 + (next.upTo n + ((next.kidsAt n).size + 1)); omega
theorem upTo_lenV (F : Vo) : F.upTo F.len = F.size := by
  induction F with
  | nil => rfl
  | cons h a c kids next _ ih => show (Vo.cons h a c kids next).upTo (next.len + 1) = kids.size + 1 + next.size; rw [upTo_nextV, ih]
/-- what the loop keeps: S is to be done, L was met, D is done -/
structure LoopV (w : World) (top : It2V) (T : Nat) (S : List It2V) (L : List (Pl2 × Value)) (D : List It2V) : Prop where
  fwd : same2V top → ∀ p ∈ S, same2V p
  heads : ∀ p ∈ D, hsameV p = true
  closed : ∀ p ∈ D, ∀ i, i < p.1.F.len → (p.1.F.itAt i, p.2.F.itAt i) ∈ D ∨ (p.1.F.itAt i, p.2.F.itAt i) ∈ S
  has : top ∈ D ∨ top ∈ S
  keys : ∀ x v, getL x L = some v → ∃ p ∈ D, x = (p.1.pl, p.2.pl)
  vals : ∀ x v, getL x L = some v → ∃ n : Nat, v = .int .i64 n ∧ 1 ≤ n ∧ n ≤ D.length
  room : D.length + wsumV S ≤ T
  lie : ∀ p, p ∈ D ∨ p ∈ S → p.1.F.In w p.1.a ∧ p.2.F.In w p.2.a
  hdin : ∀ p, p ∈ D ∨ p ∈ S → p.1.h.In w ∧ p.2.h.In w
theorem LoopV.start {w : World} {top : It2V} (h : top.1.F.In w top.1.a ∧ top.2.F.In w top.2.a) (hh : top.1.h.In w ∧ top.2.h.In w) : LoopV w top (top.1.F.size + 1) [top] [] [] where
  fwd := fun h p hp => by rw [List.mem_singleton] at hp; subst hp; exact h
  heads := fun p hp => absurd hp List.not_mem_nil
  closed := fun p hp => absurd hp List.not_mem_nil
  has := .inr (List.mem_singleton.2 rfl)
  keys := fun x v h => by cases h
  vals := fun x v h => by cases h
  room := by show 0 + (top.1.F.size + 1 + 0) ≤ _; omega
  lie := fun p hp => by
    rcases hp with hp | hp
    · exact absurd hp List.not_mem_nil
    · rw [List.mem_singleton] at hp; subst hp; exact h
  hdin := fun p hp => by
    rcases hp with hp | hp
    · exact absurd hp List.not_mem_nil
    · rw [List.mem_singleton] at hp; subst hp; exact hh
theorem LoopV.done {w : World} {top : It2V} {T : Nat} {L : List (Pl2 × Value)} {D : List It2V} (h : LoopV w top T [] L D) : same2V top := by
  have ht : top ∈ D := by rcases h.has with h | h; exact h; cases h
  refine closed_sameV (fun p => p ∈ D) (fun p hp => ⟨h.heads p hp, fun i hi => ?_⟩) (top.1.F.size + 1) top (Nat.lt_succ_self _) ht
  rcases h.closed p hp i hi with h | h
  · exact h
  · cases h
theorem In_kidV {w : World} {F : Vo} {a : Option Addr} (h : F.In w a) {i : Nat} (hi : i < F.len) : (F.kidsAt i).In w (F.addrAt i) := by
  obtain ⟨b, o, _, hF⟩ := Vo.from_of_len h hi
  exact (Vo.from_at hF hi).2.1
theorem hd_kidV {w : World} {F : Vo} {a : Option Addr} (h : F.In w a) {i : Nat} (hi : i < F.len) : (F.hdAt i).In w := by
  obtain ⟨b, o, _, hF⟩ := Vo.from_of_len h hi
  exact (Vo.from_at hF hi).2.2.2
theorem mem_moveV {S D : List It2V} {p q : It2V} (h : q ∈ D ∨ q ∈ S ++ [p]) : q ∈ p :: D ∨ q ∈ S := by
  rcases h with h | h
  · exact .inl (List.mem_cons_of_mem _ h)
  · rcases List.mem_append.1 h with h | h
    · exact .inr h
    · rw [List.mem_singleton] at h; subst h; exact .inl List.mem_cons_self
/-- a pair whose lists were not met -/
theorem LoopV.new {w : World} {top p : It2V} {T : Nat} {S D : List It2V} {L : List (Pl2 × Value)} (h : LoopV w top T (S ++ [p]) L D) (hp : hsameV p = true) :
    LoopV w top T (S ++ kidPairsV p.1.F p.2.F p.1.F.len) (putL (p.1.pl, p.2.pl) (.int .i64 1) L) (p :: D) where
  fwd := fun ht q hq => by
    rcases List.mem_append.1 hq with hq | hq
    · exact h.fwd ht q (List.mem_append_left _ hq)
    · obtain ⟨i, hi, rfl⟩ := kidPairs_memV.1 hq
      exact alike_kidsV (h.fwd ht p (by simp)).2 i hi
  heads := fun q hq => by
    rcases List.mem_cons.1 hq with rfl | hq
    · exact hp
    · exact h.heads q hq
  closed := fun q hq i hi => by
    rcases List.mem_cons.1 hq with rfl | hq
    · exact .inr (List.mem_append_right _ (kidPairs_memV.2 ⟨i, hi, rfl⟩))
    · rcases mem_moveV (h.closed q hq i hi) with h | h
      · exact .inl h
      · exact .inr (List.mem_append_left _ h)
  has := by
    rcases mem_moveV h.has with h | h
    · exact .inl h
    · exact .inr (List.mem_append_left _ h)
  keys := fun x v hx => by
    rw [getL_put] at hx
    by_cases hxk : x = (p.1.pl, p.2.pl)
    · exact ⟨p, List.mem_cons_self, hxk⟩
    · rw [if_neg hxk] at hx
      obtain ⟨q, hq, e⟩ := h.keys x v hx
      exact ⟨q, List.mem_cons_of_mem _ hq, e⟩
  vals := fun x v hx => by
    rw [getL_put] at hx
    by_cases hxk : x = (p.1.pl, p.2.pl)
    · rw [if_pos hxk] at hx
      cases hx
      exact ⟨1, rfl, by omega, by show 1 ≤ D.length + 1; omega⟩
    · rw [if_neg hxk] at hx
      obtain ⟨n', e1, e2, e3⟩ := h.vals x v hx
      exact ⟨n', e1, e2, by show n' ≤ D.length + 1; omega⟩
  room := by
    have := h.room
    rw [wsum_appendV] at this ⊢
    rw [wsum_kidsV, upTo_lenV]
    have e : wsumV [p] = p.1.F.size + 1 + 0 := rfl
    show D.length + 1 + (wsumV S + p.1.F.size) ≤ T
    omega
  lie := fun q hq => by
    rcases hq with hq | hq
    · rcases List.mem_cons.1 hq with rfl | hq
      · exact h.lie q (.inr (by simp))
      · exact h.lie q (.inl hq)
    · rcases List.mem_append.1 hq with hq | hq
      · exact h.lie q (.inr (List.mem_append_left _ hq))
      · obtain ⟨i, hi, rfl⟩ := kidPairs_memV.1 hq
        have hl := h.lie p (.inr (by simp))
        have hlen := ((hsame_iffV p).1 hp).2
        exact ⟨In_kidV hl.1 hi, In_kidV hl.2 (by omega)⟩
  hdin := fun q hq => by
    rcases hq with hq | hq
    · rcases List.mem_cons.1 hq with rfl | hq
      · exact h.hdin q (.inr (by simp))
      · exact h.hdin q (.inl hq)
    · rcases List.mem_append.1 hq with hq | hq
      · exact h.hdin q (.inr (List.mem_append_left _ hq))
      · obtain ⟨i, hi, rfl⟩ := kidPairs_memV.1 hq
        have hl := h.lie p (.inr (by simp))
        have hlen := ((hsame_iffV p).1 hp).2
        exact ⟨hd_kidV hl.1 hi, hd_kidV hl.2 (by omega)⟩
end Go.Proofs.Ytfgchdnpbbgmjaa
/- Two values that are the same, by the program: the row of pairs that are to be done. -/
namespace Go.Proofs.Ytfgchdnpbbgmjaa
open Go.RowKit
end Go.Proofs.Ytfgchdnpbbgmjaa
/- Two values that are the same, by the program: keys that can be held against each other. -/
namespace Go.Proofs.Ytfgchdnpbbgmjaa
open Go.RowKit
/-- all lists below lie in cells that are not frozen -/
def Vo.Cl (w : World) : Vo → Prop
  | .nil => True
  | .cons _ a _ kids next => PlOk w (plOf a kids.len) ∧ kids.Cl w ∧ next.Cl w
def ItV.Good (w : World) (x : ItV) : Prop := PlOk w x.pl ∧ x.F.Cl w
theorem Vo.Cl.at {w : World} : ∀ {F : Vo}, F.Cl w → ∀ {i : Nat}, i < F.len → (F.itAt i).Good w := by
  intro F
  induction F with
  | nil => intro _ i hi; exact absurd hi (Nat.not_lt_zero _)
  | cons hd a c kids next _ ih =>
    rintro ⟨h1, h2, h3⟩ i hi
    cases i with
    | zero => exact ⟨h1, h2⟩
    | succ i => exact ih h3 (Nat.lt_of_succ_lt_succ hi)
end Go.Proofs.Ytfgchdnpbbgmjaa
/- Two values that are the same, by the program: the region that counts a pair of lists. -/
namespace Go.Proofs.Ytfgchdnpbbgmjaa
open Go.RowKit
end Go.Proofs.Ytfgchdnpbbgmjaa
/- Two trees that are the same, by the program: the region that makes the pair of places of two lists. -/
namespace Go.Proofs.Ytfgchdnpbbgmjaa
open Go.RowKit
/-- four cells of a block, that may be written -/
def Four (w : World) (b : Nat) (v0 v1 v2 v3 : Value) : Prop := (w.cell? ⟨b, 0, none⟩ = some v0 ∧ w.cell? ⟨b, 1, none⟩ = some v1 ∧ w.cell? ⟨b, 2, none⟩ = some v2 ∧ w.cell? ⟨b, 3, none⟩ = some v3) ∧ (w.frozen? ⟨b, 0, none⟩ = false ∧ w.frozen? ⟨b, 1, none⟩ = false ∧ w.frozen? ⟨b, 2, none⟩ = false ∧ w.frozen? ⟨b, 3, none⟩ = false)
theorem Four.new (w : World) (v0 v1 v2 v3 : Value) (T : TypeId) : Four (w.alloc (.cells #[v0, v1, v2, v3] T)) w.heap.size v0 v1 v2 v3 := by
  refine ⟨⟨?_, ?_, ?_, ?_⟩, ?_, ?_, ?_, ?_⟩ <;> simp
theorem Four.lt {w : World} {b : Nat} {v0 v1 v2 v3 : Value} (h : Four w b v0 v1 v2 v3) : b < w.heap.size := World.block_lt_of_cell? w _ h.1.1
theorem Four.below {B : Nat} {w w' : World} {b : Nat} {v0 v1 v2 v3 : Value} (h : Four w b v0 v1 v2 v3) (hb : Below B w w') (hB : b < B) : Four w' b v0 v1 v2 v3 := by
  obtain ⟨⟨a0, a1, a2, a3⟩, f0, f1, f2, f3⟩ := h
  exact ⟨⟨(hb.cell (p := ⟨b, 0, none⟩) hB).trans a0, (hb.cell (p := ⟨b, 1, none⟩) hB).trans a1, (hb.cell (p := ⟨b, 2, none⟩) hB).trans a2, (hb.cell (p := ⟨b, 3, none⟩) hB).trans a3⟩, (hb.frozen (p := ⟨b, 0, none⟩) hB).trans f0, (hb.frozen (p := ⟨b, 1, none⟩) hB).trans f1, (hb.frozen (p := ⟨b, 2, none⟩) hB).trans f2, (hb.frozen (p := ⟨b, 3, none⟩) hB).trans f3⟩
theorem Four.drew {w : World} {b : Nat} {v0 v1 v2 v3 : Value} (h : Four w b v0 v1 v2 v3) : Four w.drew b v0 v1 v2 v3 := h.below ((Below.refl _ _).drew) h.lt
/-- a pair in its box -/
abbrev Ten (pb : Nat) (xk : Int) (xt : ByteArray) (xm xe : Int) (sx : Value) (yk : Int) (yt : ByteArray) (ym ye : Int) (sy : Value) (w : World) : Prop :=
  (w.cell? ⟨pb, 0, none⟩ = some (.int .i64 xk) ∧ w.cell? ⟨pb, 1, none⟩ = some (.string xt) ∧ w.cell? ⟨pb, 2, none⟩ = some (.int .i64 xm) ∧ w.cell? ⟨pb, 3, none⟩ = some (.int .i64 xe) ∧ w.cell? ⟨pb, 4, none⟩ = some sx) ∧
  (w.cell? ⟨pb, 5, none⟩ = some (.int .i64 yk) ∧ w.cell? ⟨pb, 6, none⟩ = some (.string yt) ∧ w.cell? ⟨pb, 7, none⟩ = some (.int .i64 ym) ∧ w.cell? ⟨pb, 8, none⟩ = some (.int .i64 ye) ∧ w.cell? ⟨pb, 9, none⟩ = some sy)
theorem Ten.same {w w' : World} {pb : Nat} {xk : Int} {xt : ByteArray} {xm xe : Int} {sx : Value} {yk : Int} {yt : ByteArray} {ym ye : Int} {sy : Value} (h : Ten pb xk xt xm xe sx yk yt ym ye sy w) (hb : w'.heap[pb]? = w.heap[pb]?) : Ten pb xk xt xm xe sx yk yt ym ye sy w' := by
  have c : ∀ o, w'.cell? ⟨pb, o, none⟩ = w.cell? ⟨pb, o, none⟩ := fun o => World.cell?_of_block (a := ⟨pb, o, none⟩) hb
  obtain ⟨⟨a0, a1, a2, a3, a4⟩, a5, a6, a7, a8, a9⟩ := h
  exact ⟨⟨(c 0).trans a0, (c 1).trans a1, (c 2).trans a2, (c 3).trans a3, (c 4).trans a4⟩, (c 5).trans a5, (c 6).trans a6, (c 7).trans a7, (c 8).trans a8, (c 9).trans a9⟩
theorem Ten.lt {w : World} {pb : Nat} {xk : Int} {xt : ByteArray} {xm xe : Int} {sx : Value} {yk : Int} {yt : ByteArray} {ym ye : Int} {sy : Value} (h : Ten pb xk xt xm xe sx yk yt ym ye sy w) : pb < w.heap.size := World.block_lt_of_cell? _ _ h.1.1
end Go.Proofs.Ytfgchdnpbbgmjaa
/- Two values that are the same, by the program: the region that makes the pair of places of two lists. -/
namespace Go.Proofs.Ytfgchdnpbbgmjaa
open Go.RowKit
/-- a pair in its box -/
abbrev TwoV (pb : Nat) (x : Hd) (sx : Value) (y : Hd) (sy : Value) (w : World) : Prop :=
  (w.cell? ⟨pb, 0, none⟩ = some (.int .i64 x.k) ∧ w.cell? ⟨pb, 1, none⟩ = some (.int .i64 x.m) ∧ w.cell? ⟨pb, 2, none⟩ = some (.int .i64 x.e) ∧ w.cell? ⟨pb, 3, none⟩ = some (.string x.t) ∧ w.cell? ⟨pb, 4, none⟩ = some sx ∧ w.cell? ⟨pb, 5, none⟩ = some (.slice x.na x.ns.length x.nc)) ∧
  (w.cell? ⟨pb, 6, none⟩ = some (.int .i64 y.k) ∧ w.cell? ⟨pb, 7, none⟩ = some (.int .i64 y.m) ∧ w.cell? ⟨pb, 8, none⟩ = some (.int .i64 y.e) ∧ w.cell? ⟨pb, 9, none⟩ = some (.string y.t) ∧ w.cell? ⟨pb, 10, none⟩ = some sy ∧ w.cell? ⟨pb, 11, none⟩ = some (.slice y.na y.ns.length y.nc))
theorem TwoV.same {w w' : World} {pb : Nat} {x y : Hd} {sx sy : Value} (h : TwoV pb x sx y sy w) (hb : w'.heap[pb]? = w.heap[pb]?) : TwoV pb x sx y sy w' := by
  have c : ∀ o, w'.cell? ⟨pb, o, none⟩ = w.cell? ⟨pb, o, none⟩ := fun o => World.cell?_of_block (a := ⟨pb, o, none⟩) hb
  obtain ⟨⟨a0, a1, a2, a3, a4, a5⟩, a6, a7, a8, a9, a10, a11⟩ := h
  exact ⟨⟨(c 0).trans a0, (c 1).trans a1, (c 2).trans a2, (c 3).trans a3, (c 4).trans a4, (c 5).trans a5⟩, (c 6).trans a6, (c 7).trans a7, (c 8).trans a8, (c 9).trans a9, (c 10).trans a10, (c 11).trans a11⟩
theorem TwoV.lt {w : World} {pb : Nat} {x y : Hd} {sx sy : Value} (h : TwoV pb x sx y sy w) : pb < w.heap.size := World.block_lt_of_cell? _ _ h.1.1
end Go.Proofs.Ytfgchdnpbbgmjaa
/- Two trees that are the same, by the program: the region that puts the pairs of two lists behind what is to be done. -/
namespace Go.Proofs.Ytfgchdnpbbgmjaa
open Go.RowKit
section
variable {P : Program}
end
end Go.Proofs.Ytfgchdnpbbgmjaa
/- Two values that are the same, by the program: the region that puts the pairs of two lists behind what is to be done. -/
namespace Go.Proofs.Ytfgchdnpbbgmjaa
open Go.RowKit
end Go.Proofs.Ytfgchdnpbbgmjaa
/- Two values that are the same, by the program: the loop walked. -/
namespace Go.Proofs.Ytfgchdnpbbgmjaa
open Go.RowKit
end Go.Proofs.Ytfgchdnpbbgmjaa
/- Contracts over values: the laws' own measure. -/
namespace Go.Proofs.Ytfgchdnpbbgmjaa
open Go.RowKit
end Go.Proofs.Ytfgchdnpbbgmjaa
/- Two values that are the same: ValueSame of the program, and copies that can be held against each other. -/
namespace Go.Proofs.Ytfgchdnpbbgmjaa
open Go.RowKit
theorem Vo.Cl.below {w w' : World} (hb : Below w.heap.size w w') : ∀ {F : Vo}, F.Cl w → F.Cl w' := by
  intro F
  induction F with
  | nil => intro _; trivial
  | cons h a c kids next ih1 ih2 => rintro ⟨h1, h2, h3⟩; exact ⟨h1.below hb, ih1 h2, ih2 h3⟩
theorem ItV.Good.below {w w' : World} {x : ItV} (h : x.Good w) (hb : Below w.heap.size w w') : x.Good w' := ⟨h.1.below hb, h.2.below hb⟩
/-- a value in its box -/
abbrev BxV (b : Nat) (h : Hd) (s : Value) (w : World) : Prop := w.cell? ⟨b, 0, none⟩ = some (.int .i64 h.k) ∧ w.cell? ⟨b, 1, none⟩ = some (.int .i64 h.m) ∧ w.cell? ⟨b, 2, none⟩ = some (.int .i64 h.e) ∧ w.cell? ⟨b, 3, none⟩ = some (.string h.t) ∧ w.cell? ⟨b, 4, none⟩ = some s ∧ w.cell? ⟨b, 5, none⟩ = some (.slice h.na h.ns.length h.nc)
theorem BxV.below {b : Nat} {h : Hd} {s : Value} {w w' : World} (x : BxV b h s w) (hb : Below w.heap.size w w') : BxV b h s w' := by
  have hl : b < w.heap.size := World.block_lt_of_cell? _ _ x.1
  obtain ⟨h0, h1, h2, h3, h4, h5⟩ := x
  exact ⟨(hb.cell (p := ⟨b, 0, none⟩) hl).trans h0, (hb.cell (p := ⟨b, 1, none⟩) hl).trans h1, (hb.cell (p := ⟨b, 2, none⟩) hl).trans h2, (hb.cell (p := ⟨b, 3, none⟩) hl).trans h3, (hb.cell (p := ⟨b, 4, none⟩) hl).trans h4, (hb.cell (p := ⟨b, 5, none⟩) hl).trans h5⟩
theorem BxV.new (w : World) (h : Hd) (s : Value) (T : TypeId) : BxV w.heap.size h s (w.alloc (.cells #[.int .i64 h.k, .int .i64 h.m, .int .i64 h.e, .string h.t, s, .slice h.na h.ns.length h.nc] T)) := by
  refine ⟨?_, ?_, ?_, ?_, ?_, ?_⟩ <;> simp
end Go.Proofs.Ytfgchdnpbbgmjaa
/- Drawn values: what is known of a value that was drawn, and how it stays. -/
namespace Go.Proofs.Ytfgchdnpbbgmjaa
open Go.RowKit
/-- every block that was there, but b and r, is as it was -/
def Otr (b : Nat) (r : Option Nat) (W w' : World) : Prop := W.heap.size ≤ w'.heap.size ∧ ∀ x, x < W.heap.size → ¬ x = b → some x ≠ r → w'.heap[x]? = W.heap[x]?
theorem Otb.otr {b : Nat} {W w' : World} (h : Otb b W w') (r : Option Nat) : Otr b r W w' := ⟨h.1, fun x h1 h2 _ => h.2 x h1 h2⟩
theorem Otr.refl (b : Nat) (r : Option Nat) (W : World) : Otr b r W W := ⟨Nat.le_refl _, fun _ _ _ _ => rfl⟩
theorem Otr.below {b : Nat} {r : Option Nat} {W w' w'' : World} (h : Otr b r W w') (k : Below w'.heap.size w' w'') : Otr b r W w'' :=
  ⟨Nat.le_trans h.1 k.size, fun x h1 h2 h3 => (k.block x (Nat.lt_of_lt_of_le h1 h.1)).trans (h.2 x h1 h2 h3)⟩
theorem Otr.grown {b : Nat} {r : Option Nat} {W w' w'' : World} (h : Otr b r W w') (k : w'.grownBy w'' r) : Otr b r W w'' :=
  ⟨Nat.le_trans h.1 k.size, fun x h1 h2 h3 => (k.block x (Nat.lt_of_lt_of_le h1 h.1) h3).trans (h.2 x h1 h2 h3)⟩
theorem Otr.cell {b c o : Nat} {r : Option Nat} {W w' : World} (h : Otr b r W w') (hc : c < W.heap.size) (hb : ¬ c = b) (hr : some c ≠ r) : w'.cell? ⟨c, o, none⟩ = W.cell? ⟨c, o, none⟩ := World.cell?_of_block (a := ⟨c, o, none⟩) (h.2 c hc hb hr)
theorem Otr.frozen {b c o : Nat} {r : Option Nat} {W w' : World} (h : Otr b r W w') (hc : c < W.heap.size) (hb : ¬ c = b) (hr : some c ≠ r) : w'.frozen? ⟨c, o, none⟩ = W.frozen? ⟨c, o, none⟩ := World.frozen?_of_block (a := ⟨c, o, none⟩) (h.2 c hc hb hr)
theorem Otr.kin {b : Nat} {r : Option Nat} {W w' : World} (h : Otr b r W w') {F : Vo} (hB : F.Blk (fun x => ¬ x = b ∧ some x ≠ r)) (hF : F.Kin W) : F.Kin w' :=
  Vo.kin_agree (P := fun x => ¬ x = b ∧ some x ≠ r) (fun _ _ _ hc hv => (h.cell (World.block_lt_of_cell? W _ hv) hc.1 hc.2).trans hv) hB hF
theorem Otr.row {b c : Nat} {r : Option Nat} {W w' : World} (h : Otr b r W w') (hb : ¬ c = b) (hr : some c ≠ r) {vs : List Value} (hR : Row W c vs) : Row w' c vs := fun i v hi => by
  have hl := World.block_lt_of_cell? W _ (hR i v hi).1
  exact ⟨(h.cell hl hb hr).trans (hR i v hi).1, (h.frozen hl hb hr).trans (hR i v hi).2⟩
theorem Otr.own {b : Nat} {r : Option Nat} {W w' : World} {base : Nat} {e : TypeId} {size : Nat} {v : Value} {n : Nat} {xs : List Value} (k : Otr b r W w') (h : W.ownsRow base e size v n xs) (hb : b < base) (hr : ∀ g, v.ownBlock = some g → some g ≠ r) : w'.ownsRow base e size v n xs := by
  obtain ⟨h1, h2⟩ := h
  refine ⟨h1, ?_⟩
  rcases h2 with h2 | ⟨g, cap, cur, rfl, e2, e3, e4, e5, e6, e7⟩
  · exact .inl h2
  · exact .inr ⟨g, cap, cur, rfl, e2, by rw [k.2 g (Array.getElem?_eq_some_iff.1 e3).1 (by omega) (hr g rfl)]; exact e3, e4, e5, e6, e7⟩
theorem Vo.app_cl {w : World} {F G : Vo} (hF : F.Cl w) (hG : G.Cl w) : (F.app G).Cl w := by
  induction F with
  | nil => exact hG
  | cons h a c kids next _ ih => exact ⟨hF.1, hF.2.1, ih hF.2.2⟩
theorem Vo.app_cl_iff {w : World} {F G : Vo} : (F.app G).Cl w ↔ F.Cl w ∧ G.Cl w := by
  induction F with
  | nil => exact ⟨fun h => ⟨trivial, h⟩, fun h => h.2⟩
  | cons h a c kids next _ ih => exact ⟨fun x => ⟨⟨x.1, x.2.1, (ih.1 x.2.2).1⟩, (ih.1 x.2.2).2⟩, fun x => ⟨x.1.1, x.1.2.1, ih.2 ⟨x.1.2.2, x.2⟩⟩⟩
theorem insV_cl {w : World} {X F : Vo} {k : Nat} (hX : X.Cl w) (hF : F.Cl w) : (insV X F k).Cl w := by
  rw [← Vo.take_drop F k, Vo.app_cl_iff] at hF
  exact Vo.app_cl hF.1 (Vo.app_cl hX hF.2)
theorem Otr.cl {b : Nat} {r : Option Nat} {W w' : World} (h : Otr b r W w') : ∀ {F : Vo}, F.Blk (fun x => ¬ x = b ∧ some x ≠ r) → F.Cl W → F.Cl w' := by
  intro F
  induction F with
  | nil => exact fun _ _ => trivial
  | cons hd a c kids next ih1 ih2 =>
    rintro ⟨_, h0, hb1, hb2⟩ ⟨h1, h2, h3⟩
    refine ⟨?_, ih1 hb1 h2, ih2 hb2 h3⟩
    rcases h0 with rfl | ⟨b', o', rfl, hP⟩
    · exact .inl rfl
    · rcases h1 with h1 | ⟨x, cs, t, h1, hx⟩
      · exact .inl h1
      · refine .inr ⟨x, cs, t, h1, ?_⟩
        have hxb : x.block = b' := by
          unfold plOf at h1
          split at h1
          · cases h1
          · cases h1; rfl
        rw [h.2 x.block (Array.getElem?_eq_some_iff.1 hx).1 (by rw [hxb]; exact hP.1) (by rw [hxb]; exact hP.2)]
        exact hx
theorem own_pl {W : World} {base size : Nat} {e : TypeId} {a : Option Addr} {c n : Nat} {xs : List Value} (h : W.ownsRow base e size (.slice a n c) n xs) : PlOk W (plOf a n) := by
  rcases h.2 with ⟨e1, h0⟩ | ⟨g, cap, cur, e1, h1, h2, _⟩
  · subst h0; exact .inl rfl
  · cases e1
    by_cases hn : n = 0
    · subst hn; exact .inl rfl
    · exact .inr ⟨_, cur, e, by unfold plOf; rw [if_neg hn], h2⟩
/-- the block of a slice -/
def blkOf (a : Option Addr) : Option Nat := a.map (·.block)
theorem ownBlock_blkOf (a : Option Addr) (n c : Nat) : (Value.slice a n c).ownBlock = blkOf a := by cases a <;> rfl
/-- a value that was drawn: its lists are owned, what is in them lies elsewhere -/
def ValS (B0 L M : Nat) (w : World) (h : Hd) (a : Option Addr) (c : Nat) (F : Vo) : Prop :=
  ((F.len ≤ L ∧ F.size ≤ M ∧ F.wt ≤ 60 * F.size ∧ fw h F) ∧ h.ns.length ≤ L ∧ h.t.size ≤ 7 ∧ ∀ s ∈ h.ns, s.size ≤ 10) ∧
  w.ownsRow B0 28 6 (.slice a F.len c) F.len F.cells ∧ w.ownsRow B0 9 1 (.slice h.na h.ns.length h.nc) h.ns.length (texts h.ns) ∧ (F.Kin w ∧ F.Cl w) ∧
  F.Blk (fun x => (B0 ≤ x ∧ x < w.heap.size) ∧ some x ≠ blkOf a ∧ some x ≠ blkOf h.na)
theorem sWt_le : ∀ {ss : List ByteArray}, (∀ s ∈ ss, s.size ≤ 10) → sWt ss ≤ 11 * ss.length := by
  intro ss
  induction ss with
  | nil => intro _; exact Nat.le_refl _
  | cons s t ih =>
    intro h
    have h1 := h s (List.mem_cons_self ..)
    have h2 := ih (fun x hx => h x (List.mem_cons_of_mem _ hx))
    show s.size + 1 + sWt t ≤ 11 * (t.length + 1)
    omega
theorem hin_of {w : World} {B0 : Nat} {h : Hd} (h1 : w.ownsRow B0 9 1 (.slice h.na h.ns.length h.nc) h.ns.length (texts h.ns)) (h2 : h.t.size ≤ 7) (h3 : ∀ s ∈ h.ns, s.size ≤ 10) : h.In w := by
  obtain ⟨a, c, e, hl, hc, _⟩ := own_lies h1
  cases e
  exact ⟨hl.sin (fun s hs => by have := h3 s hs; unfold maxLen; omega), hc, by unfold maxLen; omega⟩
theorem ValS.in {B0 L M : Nat} {w : World} {h : Hd} {a : Option Addr} {c : Nat} {F : Vo} (x : ValS B0 L M w h a c F) : F.In w a ∧ (F.len ≤ c ∧ c ≤ maxLen) ∧ h.In w := by
  obtain ⟨⟨_, _, ht, hs⟩, h6, h1, hk, _⟩ := x
  obtain ⟨a', c', e, hl, hc, _⟩ := own_lies h6
  cases e
  exact ⟨hl.in hk.1, hc, hin_of h1 ht hs⟩
theorem ValS.one {B0 L M : Nat} {w : World} {h : Hd} {a : Option Addr} {c : Nat} {F : Vo} (x : ValS B0 L M w h a c F) : (oneV h a c F).Kin w := Vo.kin_one.2 x.in
theorem ValS.oneCl {B0 L M : Nat} {w : World} {h : Hd} {a : Option Addr} {c : Nat} {F : Vo} (x : ValS B0 L M w h a c F) : (oneV h a c F).Cl w := ⟨own_pl x.2.1, x.2.2.2.1.2, trivial⟩
theorem ValS.blk {B0 L M : Nat} {w : World} {h : Hd} {a : Option Addr} {c : Nat} {F : Vo} (x : ValS B0 L M w h a c F) : (oneV h a c F).Blk (fun x => B0 ≤ x ∧ x < w.heap.size) := by
  obtain ⟨_, h6, h1, _, hB⟩ := x
  refine ⟨?_, ?_, hB.mono (fun b hb => hb.1), trivial⟩
  · obtain ⟨a', c', e, _, _, h0⟩ := own_lies h1
    rcases h0 with h0 | ⟨b, e1, e2, e3⟩
    · exact .inl (List.eq_nil_of_length_eq_zero h0)
    · refine .inr ⟨b, 0, ?_, e3, (h1.lt b e2).2⟩
      cases e; exact e1
  · obtain ⟨a', c', e, _, _, h0⟩ := own_lies h6
    rcases h0 with h0 | ⟨b, e1, e2, e3⟩
    · left
      cases F with
      | nil => rfl
      | cons h0' a0 c0 k0 n0 => exact absurd h0 (Nat.succ_ne_zero _)
    · refine .inr ⟨b, 0, ?_, e3, (h6.lt b e2).2⟩
      cases e; exact e1
theorem ValS.otr {B0 L M b : Nat} {r : Option Nat} {W w' : World} {h : Hd} {a : Option Addr} {c : Nat} {F : Vo} (x : ValS B0 L M W h a c F) (k : Otr b r W w') (hb : b < B0) (hr : ∀ g, r = some g → g < B0) : ValS B0 L M w' h a c F := by
  obtain ⟨h0, h6, h1, hk, hB⟩ := x
  refine ⟨h0, k.own h6 hb (fun g hg e => ?_), k.own h1 hb (fun g hg e => ?_), ⟨k.kin (hB.mono (fun x hx => ⟨by omega, fun e => ?_⟩)) hk.1, k.cl (hB.mono (fun x hx => ⟨by omega, fun e => ?_⟩)) hk.2⟩, hB.mono (fun x hx => ⟨⟨hx.1.1, Nat.lt_of_lt_of_le hx.1.2 k.1⟩, hx.2⟩)⟩
  · have := hr g e.symm; have := (h6.lt g hg).1; omega
  · have := hr g e.symm; have := (h1.lt g hg).1; omega
  · have := hr x e.symm; omega
  · have := hr x e.symm; omega
theorem ValS.below {B0 L M : Nat} {W w' : World} {h : Hd} {a : Option Addr} {c : Nat} {F : Vo} (x : ValS B0 L M W h a c F) (k : Below W.heap.size W w') : ValS B0 L M w' h a c F := by
  obtain ⟨h0, h6, h1, hk, hB⟩ := x
  exact ⟨h0, own_keep h6 k, own_keep h1 k, ⟨Vo.kin_grow k hk.1, hk.2.below k⟩, hB.mono (fun x hx => ⟨⟨hx.1.1, Nat.lt_of_lt_of_le hx.1.2 k.size⟩, hx.2⟩)⟩
theorem ValS.mono {B0 B1 L M L' M' : Nat} {W : World} {h : Hd} {a : Option Addr} {c : Nat} {F : Vo} (x : ValS B0 L M W h a c F) (hB : B1 ≤ B0) (hL : L ≤ L') (hM : M ≤ M') : ValS B1 L' M' W h a c F := by
  obtain ⟨⟨⟨h2, h3, h4⟩, h5, h5'⟩, h6, h1, hk, hBl⟩ := x
  exact ⟨⟨⟨by omega, by omega, h4⟩, by omega, h5'⟩, own_mono h6 hB, own_mono h1 hB, hk, hBl.mono (fun x hx => ⟨⟨by omega, hx.1.2⟩, hx.2⟩)⟩
theorem oneV_wt {B0 L M : Nat} {w : World} {h : Hd} {a : Option Addr} {c : Nat} {F : Vo} (x : ValS B0 L M w h a c F) (hL : L ≤ 4) : (oneV h a c F).wt ≤ 60 * (oneV h a c F).size := by
  obtain ⟨⟨⟨_, _, h4, _⟩, h5, h6, h7⟩, _⟩ := x
  have := sWt_le h7
  show h.t.size + F.wt + sWt h.ns + 1 + 0 ≤ 60 * (F.size + 1 + 0)
  omega
theorem oneV_few {B0 L M : Nat} {w : World} {h : Hd} {a : Option Addr} {c : Nat} {F : Vo} (x : ValS B0 L M w h a c F) (hL : L ≤ 4) : (oneV h a c F).few 4 := by
  obtain ⟨⟨⟨_, _, _, h4⟩, h5, _⟩, _⟩ := x
  exact ⟨by omega, h4.1, trivial⟩
theorem oneV_nob {B0 L M : Nat} {w : World} {h : Hd} {a : Option Addr} {c : Nat} {F : Vo} (x : ValS B0 L M w h a c F) : (oneV h a c F).nob := ⟨⟨x.1.1.2.2.2.2.1, x.1.2.2.1, x.1.2.2.2⟩, x.1.1.2.2.2.2.2, trivial⟩
/-- how great a drawn value may be -/
def szD : Nat → Nat
  | 0 => 0
  | d + 1 => 3 * (szD d + 1)
/-- how often it is picked -/
def pkD : Nat → Nat
  | 0 => 30
  | d + 1 => 30 + 3 * (pkD d + 4)
/-- what l14Value answers -/
def DrawC (w0 : World) (B b : Nat) (a : Option Addr) (len cap d : Nat) : Prop := ∀ (p : Int) (W : World), Rd w0 B b a len cap p W → p + pkD d ≤ 80000 →
  Calls Try.prog 46 #[.pointer (some ⟨b, 0, none⟩), .int .i64 (d : Nat)] W fun e w' => ∃ h F av c p', e = .returned (valV h av F.len c) ∧ ValS W.heap.size 3 (szD d) w' h av c F ∧ p' ≤ p + pkD d ∧ Rd w0 B b a len cap p' w' ∧ Otb b W w'
end Go.Proofs.Ytfgchdnpbbgmjaa
