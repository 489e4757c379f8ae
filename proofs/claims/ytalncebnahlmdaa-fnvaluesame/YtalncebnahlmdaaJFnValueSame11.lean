/- My own texts, joined: Draw DrawW Draw2 Ub Uf Ug. -/
import Derived.Test.YtalncebnahlmdaaRows
import Derived.WalkKit
import Derived.WalkSpells
import Derived.WalkLawsBesides
import Derived.Below
import Derived.OpenShut
import Derived.Deep.QuietTactic
import Derived.BigQuiet
import Derived.Test.YtalncebnahlmdaaJFnValueSame0
import Derived.Test.YtalncebnahlmdaaJFnValueSame8
import Derived.Test.YtalncebnahlmdaaJFnValueSame10
import Derived.Test.YtalncebnahlmdaaJFnValueSame7
import Derived.Deep.RegionHeld3
/- Contracts of the drawing functions: pick, one, l1Open. What is drawn is whatever it is; only where it is written, and its bounds, are told. -/
namespace Go.Proofs.Ytalncebnahlmdaa
open Go.RowKit

/-- what a walk is told of a slice of integers that came in -/
def IsRow (k : IntKind) (w : World) (a : Option Addr) (len cap : Nat) (zs : List Int) : Prop :=
  (a = none ∧ len = 0 ∧ cap = 0 ∧ zs = []) ∨
  ∃ x, a = some x ∧ len ≤ cap ∧ cap ≤ maxLen ∧ zs.length = cap ∧ (∀ i, i < zs.length → w.cell? (x.add i) = some (.int k (zs.getD i 0))) ∧ ∀ n ∈ zs, (Lit.int k n).wf = true

/-- a code of at most so many bytes: none, or bytes in a block below B of W -/
def Code (W : World) (B : Nat) (a : Option Addr) (len : Nat) : Prop :=
  len = 0 ∨ ∃ k off, a = some ⟨k, off, none⟩ ∧ k < B ∧ ∀ i, i < len → ∃ c : Int, 0 ≤ c ∧ c ≤ 255 ∧ W.cell? ⟨k, off + i, none⟩ = some (.int .u8 c)
theorem Code.below {W W' : World} {B : Nat} {a : Option Addr} {len : Nat} (h : Code W B a len) (hb : Below B W W') : Code W' B a len := by
  rcases h with h | ⟨k, off, h1, h2, h3⟩
  · exact .inl h
  · refine .inr ⟨k, off, h1, h2, fun i hi => ?_⟩
    obtain ⟨c, c1, c2, c3⟩ := h3 i hi
    exact ⟨c, c1, c2, (hb.cell (p := ⟨k, off + i, none⟩) h2).trans c3⟩
theorem Code.less {W : World} {B : Nat} {a : Option Addr} {len len' : Nat} (h : Code W B a len) (hl : len' ≤ len) : Code W B a len' := by
  rcases h with h | ⟨k, off, h1, h2, h3⟩
  · exact .inl (by omega)
  · exact .inr ⟨k, off, h1, h2, fun i hi => h3 i (by omega)⟩

theorem xor_i64_nonneg (x y : Int) (hx : 0 ≤ x) (hx2 : x < 4611686018427387904) (hy : 0 ≤ y) (hy2 : y < 4611686018427387904) : 0 ≤ bits .xor .i64 x y := by
  obtain ⟨a, rfl⟩ := Int.eq_ofNat_of_zero_le hx
  obtain ⟨b, rfl⟩ := Int.eq_ofNat_of_zero_le hy
  have hxor : a ^^^ b < 2 ^ 62 := Nat.xor_lt_two_pow (by omega) (by omega)
  have h1 : (BitVec.ofInt 64 (a : Int)).toNat = a := by
    rw [BitVec.ofInt_natCast, BitVec.toNat_ofNat]; exact Nat.mod_eq_of_lt (by omega)
  have h2 : (BitVec.ofInt 64 (b : Int)).toNat = b := by
    rw [BitVec.ofInt_natCast, BitVec.toNat_ofNat]; exact Nat.mod_eq_of_lt (by omega)
  show 0 ≤ IntKind.i64.wrap ((BitVec.ofInt 64 (a : Int) ^^^ BitVec.ofInt 64 (b : Int)).toNat : Int)
  rw [BitVec.toNat_xor, h1, h2, IntKind.wrap_i64]
  omega

set_option maxHeartbeats 1000000 in
theorem pick_none (W : World) (b : Nat) (a : Option Addr) (cap : Nat) (p n : Int) (h0 : W.cell? ⟨b, 0, none⟩ = some (.slice a 0 cap)) (h1 : W.cell? ⟨b, 1, none⟩ = some (.int .i64 p)) (h2 : W.frozen? ⟨b, 1, none⟩ = false) (p0 : 0 ≤ p) (p1 : p ≤ 100000) (n1 : 1 ≤ n) :
    Calls Try.prog 29 #[.pointer (some ⟨b, 0, none⟩), .int .i64 n] W fun e w' => e = .returned (.int .i64 0) ∧ w' = W.setCell ⟨b, 1, none⟩ (.int .i64 (p + 1)) := by
  go_enter Try.func29, Try.ntmps29
  go_wp2
  go_ret
  exact ⟨rfl, rfl⟩

set_option maxHeartbeats 1000000 in
theorem pick_near (W : World) (b k off len cap : Nat) (p n c : Int) (h0 : W.cell? ⟨b, 0, none⟩ = some (.slice (some ⟨k, off, none⟩) len cap)) (h1 : W.cell? ⟨b, 1, none⟩ = some (.int .i64 p)) (h2 : W.frozen? ⟨b, 1, none⟩ = false) (p0 : 0 ≤ p) (p1 : p ≤ 100000) (n1 : 1 ≤ n) (n2 : n ≤ 100000)
    (hkb : ¬ k = b) (hl0 : 0 < len) (hl1 : len ≤ 2000) (hp : p < len) (hc : W.cell? ⟨k, off + p.toNat, none⟩ = some (.int .u8 c)) (c0 : 0 ≤ c) (c1 : c ≤ 255) :
    Calls Try.prog 29 #[.pointer (some ⟨b, 0, none⟩), .int .i64 n] W fun e w' => e = .returned (.int .i64 (c % n)) ∧ w' = W.setCell ⟨b, 1, none⟩ (.int .i64 (p + 1)) := by
  have hn1 : decide (n < 1) = false := by simp; omega
  have hlen : ((len : Int) == 0) = false := by simp; omega
  go_enter Try.func29, Try.ntmps29
  go_wp2
  go_ret
  exact ⟨rfl, rfl⟩

set_option maxHeartbeats 1000000 in
theorem pick_far (W : World) (b k off len cap : Nat) (p n c d : Int) (h0 : W.cell? ⟨b, 0, none⟩ = some (.slice (some ⟨k, off, none⟩) len cap)) (h1 : W.cell? ⟨b, 1, none⟩ = some (.int .i64 p)) (h2 : W.frozen? ⟨b, 1, none⟩ = false) (p0 : 0 ≤ p) (p1 : p ≤ 100000) (n1 : 1 ≤ n) (n2 : n ≤ 100000)
    (hkb : ¬ k = b) (hl0 : 0 < len) (hl1 : len ≤ 2000) (hp : len ≤ p) (hc : W.cell? ⟨k, off + (p % len).toNat, none⟩ = some (.int .u8 c)) (c0 : 0 ≤ c) (c1 : c ≤ 255) (hd : W.cell? ⟨k, off + ((p * 7 + 3) % len).toNat, none⟩ = some (.int .u8 d)) (d0 : 0 ≤ d) (d1 : d ≤ 255) :
    Calls Try.prog 29 #[.pointer (some ⟨b, 0, none⟩), .int .i64 n] W fun e w' => (∃ v, e = .returned (.int .i64 v) ∧ 0 ≤ v ∧ v < n) ∧ ∃ j, w' = (W.setCell ⟨b, 1, none⟩ (.int .i64 (p + 1))).drewN j := by
  have hn1 : decide (n < 1) = false := by simp; omega
  have hlen : ((len : Int) == 0) = false := by simp; omega
  have hnz : (n == 0) = false := by simp; omega
  have q1 : 0 ≤ p % len := Int.emod_nonneg _ (by omega)
  have q2 : p % len < len := Int.emod_lt_of_pos _ (by omega)
  have q3 : 0 ≤ (p * 7 + 3) % len := Int.emod_nonneg _ (by omega)
  have q4 : (p * 7 + 3) % len < len := Int.emod_lt_of_pos _ (by omega)
  have q5 : 0 ≤ p / len := Int.ediv_nonneg (by omega) (by omega)
  have q6 : p / len ≤ p := Int.ediv_le_self _ (by omega)
  go_enter Try.func29, Try.ntmps29
  go_wp2
  go_quiet (fail)
  go_wp2
  go_ret
  refine ⟨⟨_, rfl, Int.tmod_nonneg _ (xor_i64_nonneg _ _ (by omega) (by omega) (by omega) (by omega)), Int.tmod_lt_of_pos _ (by omega)⟩, _, rfl⟩

/-- the reader lies in block b, reads that code, and stands at p; below B nothing has turned since w0 -/
def Rd (w0 : World) (B b : Nat) (a : Option Addr) (len cap : Nat) (p : Int) (W : World) : Prop :=
  Below B w0 W ∧ B ≤ b ∧ B ≤ W.heap.size ∧ Code w0 B a len ∧ len ≤ 2000 ∧ 0 ≤ p ∧ W.cell? ⟨b, 0, none⟩ = some (.slice a len cap) ∧ W.cell? ⟨b, 1, none⟩ = some (.int .i64 p) ∧ W.frozen? ⟨b, 1, none⟩ = false
theorem Rd.lt {w0 : World} {B b : Nat} {a : Option Addr} {len cap : Nat} {p : Int} {W : World} (h : Rd w0 B b a len cap p W) : b < W.heap.size := World.block_lt_of_cell? W _ h.2.2.2.2.2.2.1
theorem Rd.below {w0 : World} {B b : Nat} {a : Option Addr} {len cap : Nat} {p : Int} {W W' : World} (h : Rd w0 B b a len cap p W) (hb : Below W.heap.size W W') : Rd w0 B b a len cap p W' := by
  have hl := h.lt
  obtain ⟨h1, h2, h3, h4, h5, h6, h7, h8, h9⟩ := h
  have := hb.size
  exact ⟨h1.trans (hb.mono h3), h2, by omega, h4, h5, h6, (hb.cell (p := ⟨b, 0, none⟩) hl).trans h7, (hb.cell (p := ⟨b, 1, none⟩) hl).trans h8, (hb.frozen (p := ⟨b, 1, none⟩) hl).trans h9⟩
/-- what a pick does to the world: one cell of the reader's block, and draws -/
def Stepped (b : Nat) (p : Int) (W w' : World) : Prop := ∃ j, w' = (W.setCell ⟨b, 1, none⟩ (.int .i64 (p + 1))).drewN j
theorem Rd.step {w0 : World} {B b : Nat} {a : Option Addr} {len cap : Nat} {p : Int} {W W' : World} (h : Rd w0 B b a len cap p W) (hs : Stepped b p W W') : Rd w0 B b a len cap (p + 1) W' := by
  obtain ⟨j, rfl⟩ := hs
  obtain ⟨h1, h2, h3, h4, h5, h6, h7, h8, h9⟩ := h
  have e : (W.setCell ⟨b, 1, none⟩ (.int .i64 (p + 1))).cell? ⟨b, 0, none⟩ = some (.slice a len cap) := (World.cell?_setCell_other _ _ _ _ (by simp)).trans h7
  refine ⟨below_drewN (h1.setCell (p := ⟨b, 1, none⟩) h2 _) _, h2, ?_, h4, h5, by omega, e, ?_, ?_⟩
  · simp [World.setCell]; exact h3
  · exact World.cell?_setCell_same W ⟨b, 1, none⟩ _ h8
  · simpa using h9
/-- every other block is as it was -/
theorem Stepped.other {b : Nat} {p : Int} {W W' : World} (hs : Stepped b p W W') : (∀ c o, ¬ c = b → W'.cell? ⟨c, o, none⟩ = W.cell? ⟨c, o, none⟩) ∧ (∀ c o, ¬ c = b → W'.frozen? ⟨c, o, none⟩ = W.frozen? ⟨c, o, none⟩) ∧ W'.heap.size = W.heap.size := by
  obtain ⟨j, rfl⟩ := hs
  refine ⟨fun c o h => ?_, fun c o _ => by simp, by simp [World.setCell]⟩
  exact World.cell?_setCell_other _ _ _ _ (fun e => h (by simpa using congrArg Addr.block e.symm))

theorem pick_any {w0 : World} {B b : Nat} {a : Option Addr} {len cap : Nat} {p : Int} {W : World} (n : Int) (h : Rd w0 B b a len cap p W) (p1 : p ≤ 100000) (n1 : 1 ≤ n) (n2 : n ≤ 100000) :
    Calls Try.prog 29 #[.pointer (some ⟨b, 0, none⟩), .int .i64 n] W fun e w' => (∃ v, e = .returned (.int .i64 v) ∧ 0 ≤ v ∧ v < n) ∧ Stepped b p W w' := by
  obtain ⟨h1, h2, h3, h4, h5, h6, h7, h8, h9⟩ := h
  by_cases hl : len = 0
  · subst hl
    refine (pick_none W b a cap p n h7 h8 h9 h6 p1 n1).mono ?_
    rintro e w' ⟨rfl, rfl⟩
    exact ⟨⟨0, rfl, by omega, by omega⟩, 0, rfl⟩
  · rcases h4 with h | ⟨k, off, rfl, hk, hc⟩
    · exact absurd h hl
    · have cellAt : ∀ i, i < len → ∃ c : Int, 0 ≤ c ∧ c ≤ 255 ∧ W.cell? ⟨k, off + i, none⟩ = some (.int .u8 c) := by
        intro i hi
        obtain ⟨c, c0, c1, c2⟩ := hc i hi
        exact ⟨c, c0, c1, (h1.cell (p := ⟨k, off + i, none⟩) hk).trans c2⟩
      by_cases hp : p < len
      · obtain ⟨c, c0, c1, c2⟩ := cellAt p.toNat (by omega)
        refine (pick_near W b k off len cap p n c h7 h8 h9 h6 p1 n1 n2 (by omega) (by omega) h5 hp c2 c0 c1).mono ?_
        rintro e w' ⟨rfl, rfl⟩
        exact ⟨⟨_, rfl, Int.emod_nonneg _ (by omega), Int.emod_lt_of_pos _ (by omega)⟩, 0, rfl⟩
      · have q1 : 0 ≤ p % len := Int.emod_nonneg _ (by omega)
        have q2 : p % len < len := Int.emod_lt_of_pos _ (by omega)
        have q3 : 0 ≤ (p * 7 + 3) % len := Int.emod_nonneg _ (by omega)
        have q4 : (p * 7 + 3) % len < len := Int.emod_lt_of_pos _ (by omega)
        obtain ⟨c, c0, c1, c2⟩ := cellAt (p % len).toNat (by omega)
        obtain ⟨d, d0, d1, d2⟩ := cellAt ((p * 7 + 3) % len).toNat (by omega)
        exact pick_far W b k off len cap p n c d h7 h8 h9 h6 p1 n1 n2 (by omega) (by omega) h5 (by omega) c2 c0 c1 d2 d0 d1

set_option maxHeartbeats 1000000 in
/-- one of a list of numbers that lies in a block of its own -/
theorem one_any {w0 : World} {B b : Nat} {a : Option Addr} {len cap : Nat} {p : Int} {W : World} (h : Rd w0 B b a len cap p W) (p1 : p ≤ 100000) (l n : Nat) (zs : List Int) (hl : ¬ l = b) (hn : zs.length = n) (n1 : 1 ≤ n) (n2 : n ≤ 100)
    (hc : ∀ i, i < n → W.cell? ⟨l, i, none⟩ = some (.int .i64 (zs.getD i 0))) :
    Calls Try.prog 44 #[.pointer (some ⟨b, 0, none⟩), .slice (some ⟨l, 0, none⟩) n n] W fun e w' => (∃ v, e = .returned (.int .i64 v) ∧ v ∈ zs) ∧ Stepped b p W w' := by
  go_enter Try.func44, Try.ntmps44
  go_wp2_with fail
  refine (pick_any _ h p1 (by omega) (by omega)).mono ?_
  rintro e w1 ⟨⟨v, rfl, v0, v1⟩, hs⟩
  obtain ⟨i, rfl⟩ := Int.eq_ofNat_of_zero_le v0
  have hi : i < n := by omega
  have hci : w1.cell? ⟨l, i, none⟩ = some (.int .i64 (zs.getD i 0)) := (hs.other.1 l i hl).trans (hc i hi)
  have hmem : zs.getD i 0 ∈ zs := by rw [List.getD_eq_getElem?_getD, List.getElem?_eq_getElem (by omega)]; exact List.getElem_mem _
  generalize zs.getD i 0 = z at *
  clear hc h
  go_wp2_with fail
  go_ret
  exact ⟨⟨z, rfl, hmem⟩, hs⟩

/-- a slice of bytes that came in, as the drawing functions want it -/
def CodeIn (W : World) (a : Option Addr) (len cap : Nat) : Prop := Code W W.heap.size a len ∧ len ≤ cap ∧ cap ≤ maxLen ∧ (a = none → cap = 0)
theorem codeIn_of {w : World} {a : Option Addr} {len cap : Nat} {zs : List Int} (h : IsRow .u8 w a len cap zs) : CodeIn w a len cap := by
  rcases h with ⟨rfl, rfl, rfl, rfl⟩ | ⟨x, rfl, hl, hm, hz, hc, hw⟩
  · exact ⟨.inl rfl, Nat.le_refl _, by unfold maxLen; omega, fun _ => rfl⟩
  · refine ⟨?_, hl, hm, fun h => by cases h⟩
    by_cases h0 : len = 0
    · exact .inl h0
    · obtain ⟨k, off, spot⟩ := x
      have c0 := hc 0 (by omega)
      have hspot : spot = none := by simpa [Addr.add] using World.cell?_spot c0
      subst hspot
      refine .inr ⟨k, off, rfl, World.block_lt_of_cell? w _ c0, fun i hi => ?_⟩
      have ci := hc i (by omega)
      have hmem : zs.getD i 0 ∈ zs := by rw [List.getD_eq_getElem?_getD, List.getElem?_eq_getElem (by omega)]; exact List.getElem_mem _
      have hb := bounds_u8 (hw _ hmem)
      have e : Addr.add ⟨k, off, none⟩ i = ⟨k, off + i, none⟩ := by
        by_cases hi0 : i = 0
        · subst hi0; simp [Addr.add]
        · simp [Addr.add, hi0]
      rw [e] at ci
      exact ⟨zs.getD i 0, hb.1, hb.2, ci⟩
theorem CodeIn.below {W W' : World} {a : Option Addr} {len cap : Nat} (h : CodeIn W a len cap) (hb : Below W.heap.size W W') : CodeIn W' a len cap := by
  obtain ⟨h1, h2, h3, h4⟩ := h
  refine ⟨?_, h2, h3, h4⟩
  rcases h1.below hb with h | ⟨k, off, e1, e2, e3⟩
  · exact .inl h
  · exact .inr ⟨k, off, e1, by have := hb.size; omega, e3⟩

set_option maxHeartbeats 1000000 in
theorem l1Open_any (W : World) (a : Option Addr) (len cap : Nat) (h : CodeIn W a len cap) :
    Calls Try.prog 23 #[.slice a len cap] W fun e w' => ∃ len', e = .returned (.pointer (some ⟨W.heap.size, 0, none⟩)) ∧ Rd W W.heap.size W.heap.size a len' cap 0 w' := by
  obtain ⟨h1, h2, h3, h4⟩ := h
  unfold maxLen at h3
  by_cases hl : 2000 < len
  · cases a with
    | none => have := h4 rfl; omega
    | some x =>
      have hC := h1.less (len' := 2000) (by omega)
      have q1 : (2000 : Int) ≤ cap := by omega
      have q2 : 2000 ≤ cap := by omega
      clear h1 h4
      go_enter Try.func23, Try.ntmps23
      go_wp2
      go_ret
      refine ⟨2000, rfl, (Below.refl _ _).alloc (Nat.le_refl _) _, Nat.le_refl _, by simp, hC, by omega, by omega, ?_, ?_, ?_⟩
      all_goals simp
  · have hC := h1
    clear h1 h4
    go_enter Try.func23, Try.ntmps23
    go_wp2
    go_ret
    refine ⟨len, rfl, (Below.refl _ _).alloc (Nat.le_refl _) _, Nat.le_refl _, by simp, hC, by omega, by omega, ?_, ?_, ?_⟩
    all_goals simp
end Go.Proofs.Ytalncebnahlmdaa
/- Contracts of the drawing functions: one of some texts; DrawNameOk. -/
namespace Go.Proofs.Ytalncebnahlmdaa
open Go.RowKit

set_option maxHeartbeats 1000000 in
/-- one of a list of texts that lies in a block of its own -/
theorem of_any {w0 : World} {B b : Nat} {a : Option Addr} {len cap : Nat} {p : Int} {W : World} (h : Rd w0 B b a len cap p W) (p1 : p ≤ 100000) (l n : Nat) (zs : List ByteArray) (hl : ¬ l = b) (hn : zs.length = n) (n1 : 1 ≤ n) (n2 : n ≤ 100)
    (hc : ∀ i, i < n → W.cell? ⟨l, i, none⟩ = some (.string (zs.getD i default))) :
    Calls Try.prog 68 #[.pointer (some ⟨b, 0, none⟩), .slice (some ⟨l, 0, none⟩) n n] W fun e w' => (∃ v, e = .returned (.string v) ∧ v ∈ zs) ∧ Stepped b p W w' := by
  go_enter Try.func68, Try.ntmps68
  go_wp2_with fail
  refine (pick_any _ h p1 (by omega) (by omega)).mono ?_
  rintro e w1 ⟨⟨v, rfl, v0, v1⟩, hs⟩
  obtain ⟨i, rfl⟩ := Int.eq_ofNat_of_zero_le v0
  have hi : i < n := by omega
  have hci : w1.cell? ⟨l, i, none⟩ = some (.string (zs.getD i default)) := (hs.other.1 l i hl).trans (hc i hi)
  have hmem : zs.getD i default ∈ zs := by rw [List.getD_eq_getElem?_getD, List.getElem?_eq_getElem (by omega)]; exact List.getElem_mem _
  generalize zs.getD i default = z at *
  clear hc h
  go_wp2_with fail
  go_ret
  exact ⟨⟨z, rfl, hmem⟩, hs⟩

end Go.Proofs.Ytalncebnahlmdaa
/- Contracts: l14Dec, l14AnyDec, the draws of two numbers. -/
namespace Go.Proofs.Ytalncebnahlmdaa
open Go.RowKit
attribute [local go_sem] cell_alloc_is frozen_alloc_is

/-- two cells of another block are as they were -/
theorem Two.stepped {b c : Nat} {p m x : Int} {W W' : World} (h : Two W c m x) (hs : Stepped b p W W') (hc : ¬ c = b) : Two W' c m x :=
  ⟨(hs.other.1 c 0 hc).trans h.1, (hs.other.1 c 1 hc).trans h.2.1, (hs.other.2.1 c 0 hc).trans h.2.2.1, (hs.other.2.1 c 1 hc).trans h.2.2.2⟩

/-- every block that was there, but b, is as it was -/
def Oth (b : Nat) (W w' : World) : Prop := W.heap.size ≤ w'.heap.size ∧ ∀ c o, c < W.heap.size → ¬ c = b → w'.cell? ⟨c, o, none⟩ = W.cell? ⟨c, o, none⟩ ∧ w'.frozen? ⟨c, o, none⟩ = W.frozen? ⟨c, o, none⟩
theorem Oth.refl (b : Nat) (W : World) : Oth b W W := ⟨Nat.le_refl _, fun _ _ _ _ => ⟨rfl, rfl⟩⟩
theorem Oth.below {b : Nat} {W w' w'' : World} (h : Oth b W w') (k : Below w'.heap.size w' w'') : Oth b W w'' :=
  ⟨Nat.le_trans h.1 k.size, fun c o hc hb => ⟨(k.cell (p := ⟨c, o, none⟩) (Nat.lt_of_lt_of_le hc h.1)).trans (h.2 c o hc hb).1, (k.frozen (p := ⟨c, o, none⟩) (Nat.lt_of_lt_of_le hc h.1)).trans (h.2 c o hc hb).2⟩⟩
theorem Oth.alloc {b : Nat} {W w' : World} (h : Oth b W w') (o : Obj) : Oth b W (w'.alloc o) := h.below ((Below.refl _ _).alloc (Nat.le_refl _) o)
theorem Oth.stepped {b : Nat} {p : Int} {W w' w'' : World} (h : Oth b W w') (k : Stepped b p w' w'') : Oth b W w'' := by
  obtain ⟨k1, k2, k3⟩ := k.other
  exact ⟨by rw [k3]; exact h.1, fun c o hc hb => ⟨(k1 c o hb).trans (h.2 c o hc hb).1, (k2 c o hb).trans (h.2 c o hc hb).2⟩⟩
theorem Oth.trans {b : Nat} {W w' w'' : World} (h : Oth b W w') (k : Oth b w' w'') : Oth b W w'' :=
  ⟨Nat.le_trans h.1 k.1, fun c o hc hb => ⟨(k.2 c o (Nat.lt_of_lt_of_le hc h.1) hb).1.trans (h.2 c o hc hb).1, (k.2 c o (Nat.lt_of_lt_of_le hc h.1) hb).2.trans (h.2 c o hc hb).2⟩⟩
theorem Oth.set {b j o : Nat} {W w' : World} (h : Oth b W w') (hj : W.heap.size ≤ j) (u : Value) : Oth b W (w'.setCell ⟨j, o, none⟩ u) := by
  have q : Below W.heap.size w' (w'.setCell ⟨j, o, none⟩ u) := (Below.refl _ w').setCell (p := ⟨j, o, none⟩) hj u
  exact ⟨Nat.le_trans h.1 q.size, fun c o' hc hb => ⟨(q.cell (p := ⟨c, o', none⟩) hc).trans (h.2 c o' hc hb).1, (q.frozen (p := ⟨c, o', none⟩) hc).trans (h.2 c o' hc hb).2⟩⟩
theorem Rd.set {w0 : World} {B b j o : Nat} {a : Option Addr} {len cap : Nat} {p : Int} {W : World} (h : Rd w0 B b a len cap p W) (hj : B ≤ j) (hb : ¬ b = j) (u : Value) : Rd w0 B b a len cap p (W.setCell ⟨j, o, none⟩ u) := by
  obtain ⟨h1, h2, h3, h4, h5, h6, h7, h8, h9⟩ := h
  have far : ∀ o', (W.setCell ⟨j, o, none⟩ u).cell? ⟨b, o', none⟩ = W.cell? ⟨b, o', none⟩ := fun o' => World.cell?_setCell_other _ _ _ _ (fun e => hb (by simpa using congrArg Addr.block e.symm))
  exact ⟨h1.setCell (p := ⟨j, o, none⟩) hj u, h2, by simpa [World.setCell] using h3, h4, h5, h6, (far 0).trans h7, (far 1).trans h8, by simpa using h9⟩
theorem cells_list (W : World) (zs : List Int) (T : TypeId) : ∀ i, i < zs.length → (W.alloc (.cells (zs.map (Value.int .i64)).toArray T)).cell? ⟨W.heap.size, i, none⟩ = some (.int .i64 (zs.getD i 0)) := by
  intro i hi
  rw [World.cell?_alloc_new]
  simp [List.getElem?_eq_getElem hi]

end Go.Proofs.Ytalncebnahlmdaa
/- Contracts of the drawing functions: l14Dec, l14Bytes, and what they leave alone: every block but the reader's. -/
namespace Go.Proofs.Ytalncebnahlmdaa
open Go.RowKit
theorem hideItU {p : Prop} (h : p) : Hid p := h
/-- every block that was there, but b, is as it was -/
def Otb (b : Nat) (W w' : World) : Prop := W.heap.size ≤ w'.heap.size ∧ ∀ c, c < W.heap.size → ¬ c = b → w'.heap[c]? = W.heap[c]?
theorem Otb.refl (b : Nat) (W : World) : Otb b W W := ⟨Nat.le_refl _, fun _ _ _ => rfl⟩
theorem Otb.below {b : Nat} {W w' w'' : World} (h : Otb b W w') (k : Below w'.heap.size w' w'') : Otb b W w'' :=
  ⟨Nat.le_trans h.1 k.size, fun c hc hb => (k.block c (Nat.lt_of_lt_of_le hc h.1)).trans (h.2 c hc hb)⟩
theorem Otb.alloc {b : Nat} {W w' : World} (h : Otb b W w') (o : Obj) : Otb b W (w'.alloc o) := h.below ((Below.refl _ _).alloc (Nat.le_refl _) o)
theorem stepped_block {b : Nat} {p : Int} {W W' : World} (hs : Stepped b p W W') {c : Nat} (h : ¬ c = b) : W'.heap[c]? = W.heap[c]? := by
  obtain ⟨j, rfl⟩ := hs
  simpa using heap_setCell_other W ⟨b, 1, none⟩ c (.int .i64 (p + 1)) h
theorem Otb.stepped {b : Nat} {p : Int} {W w' w'' : World} (h : Otb b W w') (k : Stepped b p w' w'') : Otb b W w'' :=
  ⟨by rw [k.other.2.2]; exact h.1, fun c hc hb => (stepped_block k hb).trans (h.2 c hc hb)⟩
theorem Otb.trans {b : Nat} {W w' w'' : World} (h : Otb b W w') (k : Otb b w' w'') : Otb b W w'' :=
  ⟨Nat.le_trans h.1 k.1, fun c hc hb => (k.2 c (Nat.lt_of_lt_of_le hc h.1) hb).trans (h.2 c hc hb)⟩
theorem Otb.upto {b : Nat} {W w' w'' : World} (h : Otb b W w') (k : Below W.heap.size w' w'') : Otb b W w'' :=
  ⟨Nat.le_trans h.1 k.size, fun c hc hb => (k.block c hc).trans (h.2 c hc hb)⟩
theorem Otb.set {b j o : Nat} {W w' : World} (h : Otb b W w') (hj : W.heap.size ≤ j) (u : Value) : Otb b W (w'.setCell ⟨j, o, none⟩ u) :=
  h.upto ((Below.refl _ w').setCell (p := ⟨j, o, none⟩) hj u)
theorem Otb.drew {b : Nat} {W w' : World} (h : Otb b W w') : Otb b W w'.drew := h.upto ((Below.refl _ w').drew)
theorem Otb.cell {b c o : Nat} {W w' : World} (h : Otb b W w') (hc : c < W.heap.size) (hb : ¬ c = b) : w'.cell? ⟨c, o, none⟩ = W.cell? ⟨c, o, none⟩ := World.cell?_of_block (a := ⟨c, o, none⟩) (h.2 c hc hb)
theorem Otb.frozen {b c o : Nat} {W w' : World} (h : Otb b W w') (hc : c < W.heap.size) (hb : ¬ c = b) : w'.frozen? ⟨c, o, none⟩ = W.frozen? ⟨c, o, none⟩ := World.frozen?_of_block (a := ⟨c, o, none⟩) (h.2 c hc hb)
theorem Otb.own {b : Nat} {W w' : World} {base : Nat} {e : TypeId} {size : Nat} {v : Value} {n : Nat} {xs : List Value} (k : Otb b W w') (h : W.ownsRow base e size v n xs) (hb : b < base) : w'.ownsRow base e size v n xs := by
  obtain ⟨h1, h2⟩ := h
  refine ⟨h1, ?_⟩
  rcases h2 with h2 | ⟨g, cap, cur, e1, e2, e3, e4, e5, e6, e7⟩
  · exact .inl h2
  · exact .inr ⟨g, cap, cur, e1, e2, by rw [k.2 g (Array.getElem?_eq_some_iff.1 e3).1 (by omega)]; exact e3, e4, e5, e6, e7⟩
theorem byteInfoU : (Try.prog.info? 5).map (fun i => (i.zero, i.size, i.bytes)) = some (some (.int .u8 0), 1, 1) := by kernel_rfl
theorem grow_belowU {w W1 W2 : World} {B : Nat} {e : TypeId} {size : Nat} {v : Value} {n : Nat} {xs : List Value} {o : Obj} (hB : Below B w W1) (hown : W1.ownsRow B e size v n xs) (hg : (W1.alloc o).grownBy W2 v.ownBlock) (hz : B ≤ W1.heap.size) : Below B w W2 :=
  (hB.alloc hz o).grown hg (by simp; omega) (fun k hk => (hown.lt k hk).1)
theorem own_stepU {W W' : World} {base b : Nat} {p : Int} {e : TypeId} {size : Nat} {v : Value} {n : Nat} {xs : List Value} (h : W.ownsRow base e size v n xs) (hs : Stepped b p W W') (hb : b < base) : W'.ownsRow base e size v n xs := by
  obtain ⟨j, rfl⟩ := hs
  have h1 := ownsRow_setCell_below (a := ⟨b, 1, none⟩) h hb (.int .i64 (p + 1))
  obtain ⟨q1, q2⟩ := h1
  refine ⟨q1, ?_⟩
  rcases q2 with q2 | ⟨g, cap, cur, e1, e2, e3, e4, e5, e6, e7⟩
  · exact .inl q2
  · exact .inr ⟨g, cap, cur, e1, e2, by simpa using e3, e4, e5, e6, e7⟩
theorem conv_intsU {W : World} {base n : Nat} {v : Value} {xs : List Int} (h : W.ownsRow base 5 1 v n (xs.map (Value.int .u8))) (hn : n = xs.length) :
    (convert 22 9 v).run Try.prog W = .ok (.string (strOfNums xs)) W := by
  subst hn
  obtain ⟨h1, h2⟩ := h
  rcases h2 with ⟨rfl, h0⟩ | ⟨g, cap, cur, rfl, e2, e3, e4, e5, e6, e7⟩
  · have : xs = [] := List.eq_nil_of_length_eq_zero h0
    subst this
    exact run_convert_bytes_nil _ 22 5 Try.underlying22 Try.underlying5 0 0 9 Try.underlying9
  · exact run_convert_bytes_arg (P := Try.prog) W 22 5 Try.underlying22 Try.underlying5 g 0 xs.length cap xs rfl (fun i hi => by
      rw [Nat.zero_add]
      have h := World.ownsRow.cellAt ⟨h1, .inr ⟨g, cap, cur, rfl, e2, e3, e4, e5, e6, e7⟩⟩ i (by omega)
      rw [h]
      simp [hi]) 9 Try.underlying9

theorem Rd.uptoU {w0 : World} {B B' b : Nat} {a : Option Addr} {len cap : Nat} {p : Int} {W W' : World} (h : Rd w0 B b a len cap p W) (hb : Below B' W W') (h1 : b < B') (h2 : B ≤ B') : Rd w0 B b a len cap p W' := by
  obtain ⟨g1, g2, g3, g4, g5, g6, g7, g8, g9⟩ := h
  have := hb.size
  exact ⟨g1.trans (hb.mono h2), g2, by omega, g4, g5, g6, (hb.cell (p := ⟨b, 0, none⟩) h1).trans g7, (hb.cell (p := ⟨b, 1, none⟩) h1).trans g8, (hb.frozen (p := ⟨b, 1, none⟩) h1).trans g9⟩
theorem Rd.base_leU {w0 : World} {B b : Nat} {a : Option Addr} {len cap : Nat} {p : Int} {W : World} (h : Rd w0 B b a len cap p W) : B ≤ b := h.2.1
/-- what l14Bytes draws of -/
def drawnBytesU : List Int := [97, 98, 122, 32, 10, 34, 92, 0, 255, 127, 120, 49, 200, 9]
theorem drawnBytes_leU : ∀ z ∈ drawnBytesU, 0 ≤ z ∧ z ≤ 255 := by decide

set_option maxHeartbeats 2000000 in
theorem l14Bytes_otb {w0 : World} {B b : Nat} {a : Option Addr} {len cap : Nat} {p : Int} {W : World} (h : Rd w0 B b a len cap p W) (p1 : p ≤ 90000) :
    Calls Try.prog 77 #[.pointer (some ⟨b, 0, none⟩)] W fun e w' => ∃ s p', e = .returned (.string s) ∧ s.size ≤ 7 ∧ p' ≤ p + 10 ∧ Rd w0 B b a len cap p' w' ∧ Otb b W w' := by
  have hlt := h.lt
  obtain ⟨i0, hi, hz0, hz1, hz2⟩ := info_parts byteInfoU
  have R0 : Rd w0 B b a len cap p (W.alloc (.cells #[] 5)) := h.below ((Below.refl _ _).alloc (Nat.le_refl _) _)
  have own0 : (W.alloc (.cells #[] 5)).ownsRow W.heap.size 5 1 (.slice (some ⟨W.heap.size, 0, none⟩) 0 0) 0 [] := World.ownsRow_lit W #[] 0 (Nat.le_refl _) (by unfold maxLen; omega) rfl
  go_enter Try.func77, Try.ntmps77
  go_wp2_with fail
  refine (pick_any 8 R0 (by omega) (by omega) (by omega)).mono ?_
  rintro e w1 ⟨⟨n, rfl, n0, n1⟩, s1⟩
  have R1 := R0.step s1
  have own1 := own_stepU own0 s1 (by omega)
  have z1 : W.heap.size ≤ w1.heap.size := by rw [s1.other.2.2]; simp
  have O1 := ((Otb.refl b W).alloc (.cells #[] 5)).stepped s1
  clear R0 own0 s1
  obtain ⟨n, rfl⟩ := Int.eq_ofNat_of_zero_le n0
  go_wp2_with fail
  go_loopw [3, 4] (fun v i wr => ∃ (k : Nat) (q : Int) (xs : List Int), i = .int .i64 k ∧ k + xs.length ≤ 7 ∧ q + k ≤ p + 8 ∧ wr.ownsRow W.heap.size 5 1 v xs.length (xs.map (Value.int .u8)) ∧ Rd w0 B b a len cap q wr ∧ Otb b W wr) (fun _ i _ => (intOf i).toNat)
  case atStart => exact ⟨n, p + 1, [], rfl, by simp; omega, by omega, own1, R1, O1⟩
  case round =>
    obtain ⟨k, q, xs, rfl, hk, hq, hown, hR, hO⟩ := hrel
    have hz := hO.1
    by_cases hlt0 : 0 < k
    · have hbl := hR.lt
      have hA := hR.below ((Below.refl wr.heap.size wr).alloc (Nat.le_refl _) (.cells #[.int .i64 97, .int .i64 98, .int .i64 122, .int .i64 32, .int .i64 10, .int .i64 34, .int .i64 92, .int .i64 0, .int .i64 255, .int .i64 127, .int .i64 120, .int .i64 49, .int .i64 200, .int .i64 9] 3))
      have hownA := hown.alloc (.cells #[.int .i64 97, .int .i64 98, .int .i64 122, .int .i64 32, .int .i64 10, .int .i64 34, .int .i64 92, .int .i64 0, .int .i64 255, .int .i64 127, .int .i64 120, .int .i64 49, .int .i64 200, .int .i64 9] 3)
      go_wp2_with fail
      refine (one_any hA (by omega) wr.heap.size 14 drawnBytesU (by omega) rfl (by omega) (by omega) ?_).mono ?_
      · intro i hi
        have : i = 0 ∨ i = 1 ∨ i = 2 ∨ i = 3 ∨ i = 4 ∨ i = 5 ∨ i = 6 ∨ i = 7 ∨ i = 8 ∨ i = 9 ∨ i = 10 ∨ i = 11 ∨ i = 12 ∨ i = 13 := by omega
        rcases this with rfl | rfl | rfl | rfl | rfl | rfl | rfl | rfl | rfl | rfl | rfl | rfl | rfl | rfl
        all_goals simp [drawnBytesU]
      · rintro e w2 ⟨⟨z, rfl, hzm⟩, s2⟩
        obtain ⟨zb0, zb1⟩ := drawnBytes_leU z hzm
        have hR2 := hA.step s2
        have hown2 := own_stepU hownA s2 (by omega)
        have hO2 := (hO.alloc (.cells #[.int .i64 97, .int .i64 98, .int .i64 122, .int .i64 32, .int .i64 10, .int .i64 34, .int .i64 92, .int .i64 0, .int .i64 255, .int .i64 127, .int .i64 120, .int .i64 49, .int .i64 200, .int .i64 9] 3)).stepped s2
        have hz2' : W.heap.size ≤ w2.heap.size := by rw [s2.other.2.2]; simp; omega
        clear hA hownA s2 hzm hown
        go_wp2_with (at_builtin; refine wpList_append_own _ rfl _ _ 22 rfl W.heap.size 5 i0 (.int .u8 0) 1 1 Try.underlying22 hi hz0 hz1 hz2 rfl (by decide) _ _ _ rfl (hown2.alloc _) ⟨w2.heap.size, 0, none⟩ 1 1 [.int .u8 z] rfl rfl (cell_one_new _ _ _) (fun x hx => by simp at hx; subst hx; rfl) (by unfold maxLen; omega) (by omega) (by simp; omega) ?_; intro v' w3 hown3 hgrow3 hnil3)
        have hO3 : Otb b W w3 := hO2.upto (grow_belowU (Below.refl W.heap.size w2) hown2 hgrow3 hz2')
        have hR3 : Rd w0 B b a len cap (q + 1) w3 := hR2.uptoU (grow_belowU (Below.refl W.heap.size w2) hown2 hgrow3 hz2') hlt (by have := hR2.base_leU; omega)
        have hz3 : W.heap.size ≤ w3.heap.size := by have := hgrow3.size; simp at this; omega
        clear hgrow3 hnil3
        go_roundw
        case rel =>
          refine ⟨k - 1, q + 1, xs ++ [z], ?_, by simp; omega, by omega, ?_, hR3, hO3⟩
          · have : ((k - 1 : Nat) : Int) = (k : Int) - 1 := by omega
            rw [this]
          · rw [List.map_append, List.length_append]; exact hown3
        case measure => simp [intOf]; omega
    · have hk0 : ¬ (0 : Int) < (k : Int) := by omega
      have hcv := conv_intsU hown rfl
      go_wp2_with fail
      go_ret
      exact ⟨_, rfl, by rw [strOfNums_size]; omega, q, by omega, hR, hO⟩

attribute [local go_sem] cell_alloc_is frozen_alloc_is
set_option maxHeartbeats 1000000 in
theorem l14Dec_otb {w0 : World} {B b : Nat} {a : Option Addr} {len cap : Nat} {p : Int} {W : World} (h : Rd w0 B b a len cap p W) (p1 : p ≤ 90000) :
    Calls Try.prog 76 #[.pointer (some ⟨b, 0, none⟩)] W fun e w' => ∃ m x p', e = .returned (.agg #[.int .i64 m, .int .i64 x]) ∧ Dm.ok m x = true ∧ -99999999 ≤ m ∧ m ≤ 99999999 ∧ -8 ≤ x ∧ x ≤ 8 ∧ p' ≤ p + 10 ∧ Rd w0 B b a len cap p' w' ∧ Otb b W w' := by
  have hlt := h.lt
  have R0 : Rd w0 B b a len cap p (W.alloc (.cells #[.int .i64 0, .int .i64 0] 24)) := h.below ((Below.refl _ _).alloc (Nat.le_refl _) _)
  have T0 := Two.new W 0 0 24
  have O0 := (Otb.refl b W).alloc (.cells #[.int .i64 0, .int .i64 0] 24)
  have hne : ¬ W.heap.size = b := by omega
  go_enter Try.func76, Try.ntmps76
  go_wp2_with fail
  refine (pick_any _ R0 (by omega) (by omega) (by omega)).mono ?_
  rintro e w1 ⟨⟨v1, rfl, v10, v11⟩, s1⟩
  have R1 := R0.step s1
  have T1 := T0.stepped s1 hne
  have O1 := O0.stepped s1
  clear R0 T0 O0 s1
  go_wp2_with fail
  refine (pick_any _ R1 (by omega) (by omega) (by omega)).mono ?_
  rintro e w2 ⟨⟨v2, rfl, v20, v21⟩, s2⟩
  have R2 := R1.step s2
  have T2 := T1.stepped s2 hne
  have O2 := O1.stepped s2
  clear R1 T1 O1 s2
  go_wp2_with fail
  refine (pick_any _ R2 (by omega) (by omega) (by omega)).mono ?_
  rintro e w3 ⟨⟨v3, rfl, v30, v31⟩, s3⟩
  have R3 := R2.step s3
  have T3 := T2.stepped s3 hne
  have O3 := O2.stepped s3
  clear R2 T2 O2 s3
  go_wp2_with fail
  refine (pick_any _ R3 (by omega) (by omega) (by omega)).mono ?_
  rintro e w4 ⟨⟨v4, rfl, v40, v41⟩, s4⟩
  have R4 := R3.step s4
  have T4 := T3.stepped s4 hne
  have O4 := O3.stepped s4
  clear R3 T3 O3 s4
  have hl4 := R4.lt
  go_wp2_with fail
  refine (one_any (R4.below ((Below.refl _ _).alloc (Nat.le_refl _) (.cells #[.int .i64 v1, .int .i64 (v2 * 256 + v3), .int .i64 99999999, .int .i64 0, .int .i64 (-v4), .int .i64 25, .int .i64 (-99999999)] 3))) (by omega) w4.heap.size 7 [v1, v2 * 256 + v3, 99999999, 0, -v4, 25, -99999999] (by omega) rfl (by omega) (by omega) (cells_list w4 [v1, v2 * 256 + v3, 99999999, 0, -v4, 25, -99999999] 3)).mono ?_
  rintro e w5 ⟨⟨m, rfl, hm⟩, s5⟩
  have R5 := (R4.below ((Below.refl _ _).alloc (Nat.le_refl _) (.cells #[.int .i64 v1, .int .i64 (v2 * 256 + v3), .int .i64 99999999, .int .i64 0, .int .i64 (-v4), .int .i64 25, .int .i64 (-99999999)] 3))).step s5
  have T5 := (T4.alloc (by have := O4.1; have := World.block_lt_of_cell? w4 _ T4.1; omega) (.cells #[.int .i64 v1, .int .i64 (v2 * 256 + v3), .int .i64 99999999, .int .i64 0, .int .i64 (-v4), .int .i64 25, .int .i64 (-99999999)] 3)).stepped s5 hne
  have O5 := (O4.alloc (.cells #[.int .i64 v1, .int .i64 (v2 * 256 + v3), .int .i64 99999999, .int .i64 0, .int .i64 (-v4), .int .i64 25, .int .i64 (-99999999)] 3)).stepped s5
  have hmb : -99999999 ≤ m ∧ m ≤ 99999999 := by simp at hm; omega
  obtain ⟨mb1, mb2⟩ := hmb
  clear R4 T4 O4 s5 hm v10 v11 v20 v21 v30 v31 v40 v41 hl4
  have hl5 := R5.lt
  go_wp2_with fail
  refine (one_any (R5.below ((Below.refl _ _).alloc (Nat.le_refl _) (.cells #[.int .i64 0, .int .i64 0, .int .i64 (-1), .int .i64 (-2), .int .i64 2, .int .i64 (-8), .int .i64 8] 3))) (by omega) w5.heap.size 7 [0, 0, -1, -2, 2, -8, 8] (by omega) rfl (by omega) (by omega) (cells_list w5 [0, 0, -1, -2, 2, -8, 8] 3)).mono ?_
  rintro e w6 ⟨⟨x, rfl, hx⟩, s6⟩
  have R6 := (R5.below ((Below.refl _ _).alloc (Nat.le_refl _) (.cells #[.int .i64 0, .int .i64 0, .int .i64 (-1), .int .i64 (-2), .int .i64 2, .int .i64 (-8), .int .i64 8] 3))).step s6
  have T6 := (T5.alloc (World.block_lt_of_cell? _ _ T5.1) (.cells #[.int .i64 0, .int .i64 0, .int .i64 (-1), .int .i64 (-2), .int .i64 2, .int .i64 (-8), .int .i64 8] 3)).stepped s6 hne
  have O6 := (O5.alloc (.cells #[.int .i64 0, .int .i64 0, .int .i64 (-1), .int .i64 (-2), .int .i64 2, .int .i64 (-8), .int .i64 8] 3)).stepped s6
  have hxb : -8 ≤ x ∧ x ≤ 8 := by simp at hx; omega
  obtain ⟨xb1, xb2⟩ := hxb
  clear R5 T5 O5 s6 hx hl5
  go_wp2_with fail
  refine (l1New_any _ _ _ (by omega) (by omega) (by omega) (by omega)).mono ?_
  rintro e w7 ⟨rfl, hb7⟩
  have R7 := R6.below hb7
  have T7 := T6.below hb7 (World.block_lt_of_cell? _ _ T6.1)
  have O7 := O6.below hb7
  have HNO := hideItU (@Dm.norm_ok m x)
  have HNB := hideItU (Dm.norm_i64 m x)
  clear R6 T6 O6 hb7
  generalize Dm.norm m x = r at *
  obtain ⟨rm, rx, rb⟩ := r
  obtain ⟨c0, c1, f0, f1⟩ := id T7
  have hl7 : W.heap.size < w7.heap.size := World.block_lt_of_cell? _ _ T7.1
  have hB := R7.2.1
  cases rb
  · clear T7
    go_wp2_with fail
    refine bodyPost_ret (v := .agg #[.int .i64 1, .int .i64 0]) (by simp (maxDischargeDepth := 6) [results, Try.results76, go_sem, c0, c1]) rfl ⟨1, 0, p + 1 + 1 + 1 + 1 + 1 + 1, rfl, rfl, by omega, by omega, by omega, by omega, ?_, ?_, ?_⟩
    · omega
    · exact (Rd.set (Rd.set R7 (by omega) (by omega) _) (by omega) (by omega) _).below ((Below.refl _ _).alloc (Nat.le_refl _) _)
    · exact (Otb.set (Otb.set O7 (by omega) _) (by omega) _).alloc _
  · have hok := HNO.out rfl
    simp only at hok
    obtain ⟨k1, k2, k3, k4⟩ := Dm.ok_bd hok
    have HOK := hideItU hok
    clear T7 HNO HNB hok
    go_wp2_with fail
    refine bodyPost_ret (v := .agg #[.int .i64 rm, .int .i64 rx]) (by simp (maxDischargeDepth := 6) [results, Try.results76, go_sem, c0, c1]) rfl ⟨rm, rx, p + 1 + 1 + 1 + 1 + 1 + 1, rfl, HOK.out, by omega, by omega, by omega, by omega, ?_, ?_, ?_⟩
    · omega
    · exact (Rd.set (Rd.set R7 (by omega) (by omega) _) (by omega) (by omega) _).below ((Below.refl _ _).alloc (Nat.le_refl _) _)
    · exact (Otb.set (Otb.set O7 (by omega) _) (by omega) _).alloc _


end Go.Proofs.Ytalncebnahlmdaa
/- Drawn values: what is known of a value that was drawn, and how it stays. -/
namespace Go.Proofs.Ytalncebnahlmdaa
open Go.RowKit
/-- every block that was there, but b and r, is as it was -/
def Otr (b : Nat) (r : Option Nat) (W w' : World) : Prop := W.heap.size ≤ w'.heap.size ∧ ∀ x, x < W.heap.size → ¬ x = b → some x ≠ r → w'.heap[x]? = W.heap[x]?
theorem Otb.otr {b : Nat} {W w' : World} (h : Otb b W w') (r : Option Nat) : Otr b r W w' := ⟨h.1, fun x h1 h2 _ => h.2 x h1 h2⟩
theorem Otr.refl (b : Nat) (r : Option Nat) (W : World) : Otr b r W W := ⟨Nat.le_refl _, fun _ _ _ _ => rfl⟩
theorem Otr.below {b : Nat} {r : Option Nat} {W w' w'' : World} (h : Otr b r W w') (k : Below w'.heap.size w' w'') : Otr b r W w'' :=
  ⟨Nat.le_trans h.1 k.size, fun x h1 h2 h3 => (k.block x (Nat.lt_of_lt_of_le h1 h.1)).trans (h.2 x h1 h2 h3)⟩
theorem Otr.grown {b : Nat} {r : Option Nat} {W w' w'' : World} (h : Otr b r W w') (k : w'.grownBy w'' r) : Otr b r W w'' :=
  ⟨Nat.le_trans h.1 k.size, fun x h1 h2 h3 => (k.block x (Nat.lt_of_lt_of_le h1 h.1) h3).trans (h.2 x h1 h2 h3)⟩
theorem Otr.cell {b c o : Nat} {r : Option Nat} {W w' : World} (h : Otr b r W w') (hc : c < W.heap.size) (hb : ¬ c = b) (hr : some c ≠ r) : w'.cell? ⟨c, o, none⟩ = W.cell? ⟨c, o, none⟩ := World.cell?_of_block (a := ⟨c, o, none⟩) (h.2 c hc hb hr)
theorem Otr.frozen {b c o : Nat} {r : Option Nat} {W w' : World} (h : Otr b r W w') (hc : c < W.heap.size) (hb : ¬ c = b) (hr : some c ≠ r) : w'.frozen? ⟨c, o, none⟩ = W.frozen? ⟨c, o, none⟩ := World.frozen?_of_block (a := ⟨c, o, none⟩) (h.2 c hc hb hr)
theorem Otr.kin {b : Nat} {r : Option Nat} {W w' : World} (h : Otr b r W w') {F : Vo} (hB : F.Blk (fun x => ¬ x = b ∧ some x ≠ r)) (hF : F.Kin W) : F.Kin w' :=
  Vo.kin_agree (P := fun x => ¬ x = b ∧ some x ≠ r) (fun _ _ _ hc hv => (h.cell (World.block_lt_of_cell? W _ hv) hc.1 hc.2).trans hv) hB hF
theorem Otr.row {b c : Nat} {r : Option Nat} {W w' : World} (h : Otr b r W w') (hb : ¬ c = b) (hr : some c ≠ r) {vs : List Value} (hR : Row W c vs) : Row w' c vs := fun i v hi => by
  have hl := World.block_lt_of_cell? W _ (hR i v hi).1
  exact ⟨(h.cell hl hb hr).trans (hR i v hi).1, (h.frozen hl hb hr).trans (hR i v hi).2⟩
theorem Otr.own {b : Nat} {r : Option Nat} {W w' : World} {base : Nat} {e : TypeId} {size : Nat} {v : Value} {n : Nat} {xs : List Value} (k : Otr b r W w') (h : W.ownsRow base e size v n xs) (hb : b < base) (hr : ∀ g, v.ownBlock = some g → some g ≠ r) : w'.ownsRow base e size v n xs := by
  obtain ⟨h1, h2⟩ := h
  refine ⟨h1, ?_⟩
  rcases h2 with h2 | ⟨g, cap, cur, rfl, e2, e3, e4, e5, e6, e7⟩
  · exact .inl h2
  · exact .inr ⟨g, cap, cur, rfl, e2, by rw [k.2 g (Array.getElem?_eq_some_iff.1 e3).1 (by omega) (hr g rfl)]; exact e3, e4, e5, e6, e7⟩
theorem Vo.app_cl {w : World} {F G : Vo} (hF : F.Cl w) (hG : G.Cl w) : (F.app G).Cl w := by
  induction F with
  | nil => exact hG
  | cons h a c kids next _ ih => exact ⟨hF.1, hF.2.1, ih hF.2.2⟩
theorem Vo.app_cl_iff {w : World} {F G : Vo} : (F.app G).Cl w ↔ F.Cl w ∧ G.Cl w := by
  induction F with
  | nil => exact ⟨fun h => ⟨trivial, h⟩, fun h => h.2⟩
  | cons h a c kids next _ ih => exact ⟨fun x => ⟨⟨x.1, x.2.1, (ih.1 x.2.2).1⟩, (ih.1 x.2.2).2⟩, fun x => ⟨x.1.1, x.1.2.1, ih.2 ⟨x.1.2.2, x.2⟩⟩⟩
theorem insV_cl {w : World} {X F : Vo} {k : Nat} (hX : X.Cl w) (hF : F.Cl w) : (insV X F k).Cl w := by
  rw [← Vo.take_drop F k, Vo.app_cl_iff] at hF
  exact Vo.app_cl hF.1 (Vo.app_cl hX hF.2)
theorem Otr.cl {b : Nat} {r : Option Nat} {W w' : World} (h : Otr b r W w') : ∀ {F : Vo}, F.Blk (fun x => ¬ x = b ∧ some x ≠ r) → F.Cl W → F.Cl w' := by
  intro F
  induction F with
  | nil => exact fun _ _ => trivial
  | cons hd a c kids next ih1 ih2 =>
    rintro ⟨_, h0, hb1, hb2⟩ ⟨h1, h2, h3⟩
    refine ⟨?_, ih1 hb1 h2, ih2 hb2 h3⟩
    rcases h0 with rfl | ⟨b', o', rfl, hP⟩
    · exact .inl rfl
    · rcases h1 with h1 | ⟨x, cs, t, h1, hx⟩
      · exact .inl h1
      · refine .inr ⟨x, cs, t, h1, ?_⟩
        have hxb : x.block = b' := by
          unfold plOf at h1
          split at h1
          · cases h1
          · cases h1; rfl
        rw [h.2 x.block (Array.getElem?_eq_some_iff.1 hx).1 (by rw [hxb]; exact hP.1) (by rw [hxb]; exact hP.2)]
        exact hx
theorem own_pl {W : World} {base size : Nat} {e : TypeId} {a : Option Addr} {c n : Nat} {xs : List Value} (h : W.ownsRow base e size (.slice a n c) n xs) : PlOk W (plOf a n) := by
  rcases h.2 with ⟨e1, h0⟩ | ⟨g, cap, cur, e1, h1, h2, _⟩
  · subst h0; exact .inl rfl
  · cases e1
    by_cases hn : n = 0
    · subst hn; exact .inl rfl
    · exact .inr ⟨_, cur, e, by unfold plOf; rw [if_neg hn], h2⟩
/-- the block of a slice -/
def blkOf (a : Option Addr) : Option Nat := a.map (·.block)
theorem ownBlock_blkOf (a : Option Addr) (n c : Nat) : (Value.slice a n c).ownBlock = blkOf a := by cases a <;> rfl
/-- a value that was drawn: its lists are owned, what is in them lies elsewhere -/
def ValS (B0 L M : Nat) (w : World) (h : Hd) (a : Option Addr) (c : Nat) (F : Vo) : Prop :=
  ((F.len ≤ L ∧ F.size ≤ M ∧ F.wt ≤ 60 * F.size ∧ fw h F) ∧ h.ns.length ≤ L ∧ h.t.size ≤ 7 ∧ ∀ s ∈ h.ns, s.size ≤ 10) ∧
  w.ownsRow B0 28 6 (.slice a F.len c) F.len F.cells ∧ w.ownsRow B0 9 1 (.slice h.na h.ns.length h.nc) h.ns.length (texts h.ns) ∧ (F.Kin w ∧ F.Cl w) ∧
  F.Blk (fun x => (B0 ≤ x ∧ x < w.heap.size) ∧ some x ≠ blkOf a ∧ some x ≠ blkOf h.na)
theorem sWt_le : ∀ {ss : List ByteArray}, (∀ s ∈ ss, s.size ≤ 10) → sWt ss ≤ 11 * ss.length := by
  intro ss
  induction ss with
  | nil => intro _; exact Nat.le_refl _
  | cons s t ih =>
    intro h
    have h1 := h s (List.mem_cons_self ..)
    have h2 := ih (fun x hx => h x (List.mem_cons_of_mem _ hx))
    show s.size + 1 + sWt t ≤ 11 * (t.length + 1)
    omega
theorem hin_of {w : World} {B0 : Nat} {h : Hd} (h1 : w.ownsRow B0 9 1 (.slice h.na h.ns.length h.nc) h.ns.length (texts h.ns)) (h2 : h.t.size ≤ 7) (h3 : ∀ s ∈ h.ns, s.size ≤ 10) : h.In w := by
  obtain ⟨a, c, e, hl, hc, _⟩ := own_lies h1
  cases e
  exact ⟨hl.sin (fun s hs => by have := h3 s hs; unfold maxLen; omega), hc, by unfold maxLen; omega⟩
theorem ValS.in {B0 L M : Nat} {w : World} {h : Hd} {a : Option Addr} {c : Nat} {F : Vo} (x : ValS B0 L M w h a c F) : F.In w a ∧ (F.len ≤ c ∧ c ≤ maxLen) ∧ h.In w := by
  obtain ⟨⟨_, _, ht, hs⟩, h6, h1, hk, _⟩ := x
  obtain ⟨a', c', e, hl, hc, _⟩ := own_lies h6
  cases e
  exact ⟨hl.in hk.1, hc, hin_of h1 ht hs⟩
theorem ValS.one {B0 L M : Nat} {w : World} {h : Hd} {a : Option Addr} {c : Nat} {F : Vo} (x : ValS B0 L M w h a c F) : (oneV h a c F).Kin w := Vo.kin_one.2 x.in
theorem ValS.oneCl {B0 L M : Nat} {w : World} {h : Hd} {a : Option Addr} {c : Nat} {F : Vo} (x : ValS B0 L M w h a c F) : (oneV h a c F).Cl w := ⟨own_pl x.2.1, x.2.2.2.1.2, trivial⟩
theorem ValS.blk {B0 L M : Nat} {w : World} {h : Hd} {a : Option Addr} {c : Nat} {F : Vo} (x : ValS B0 L M w h a c F) : (oneV h a c F).Blk (fun x => B0 ≤ x ∧ x < w.heap.size) := by
  obtain ⟨_, h6, h1, _, hB⟩ := x
  refine ⟨?_, ?_, hB.mono (fun b hb => hb.1), trivial⟩
  · obtain ⟨a', c', e, _, _, h0⟩ := own_lies h1
    rcases h0 with h0 | ⟨b, e1, e2, e3⟩
    · exact .inl (List.eq_nil_of_length_eq_zero h0)
    · refine .inr ⟨b, 0, ?_, e3, (h1.lt b e2).2⟩
      cases e; exact e1
  · obtain ⟨a', c', e, _, _, h0⟩ := own_lies h6
    rcases h0 with h0 | ⟨b, e1, e2, e3⟩
    · left
      cases F with
      | nil => rfl
      | cons h0' a0 c0 k0 n0 => exact absurd h0 (Nat.succ_ne_zero _)
    · refine .inr ⟨b, 0, ?_, e3, (h6.lt b e2).2⟩
      cases e; exact e1
theorem ValS.otr {B0 L M b : Nat} {r : Option Nat} {W w' : World} {h : Hd} {a : Option Addr} {c : Nat} {F : Vo} (x : ValS B0 L M W h a c F) (k : Otr b r W w') (hb : b < B0) (hr : ∀ g, r = some g → g < B0) : ValS B0 L M w' h a c F := by
  obtain ⟨h0, h6, h1, hk, hB⟩ := x
  refine ⟨h0, k.own h6 hb (fun g hg e => ?_), k.own h1 hb (fun g hg e => ?_), ⟨k.kin (hB.mono (fun x hx => ⟨by omega, fun e => ?_⟩)) hk.1, k.cl (hB.mono (fun x hx => ⟨by omega, fun e => ?_⟩)) hk.2⟩, hB.mono (fun x hx => ⟨⟨hx.1.1, Nat.lt_of_lt_of_le hx.1.2 k.1⟩, hx.2⟩)⟩
  · have := hr g e.symm; have := (h6.lt g hg).1; omega
  · have := hr g e.symm; have := (h1.lt g hg).1; omega
  · have := hr x e.symm; omega
  · have := hr x e.symm; omega
theorem ValS.below {B0 L M : Nat} {W w' : World} {h : Hd} {a : Option Addr} {c : Nat} {F : Vo} (x : ValS B0 L M W h a c F) (k : Below W.heap.size W w') : ValS B0 L M w' h a c F := by
  obtain ⟨h0, h6, h1, hk, hB⟩ := x
  exact ⟨h0, own_keep h6 k, own_keep h1 k, ⟨Vo.kin_grow k hk.1, hk.2.below k⟩, hB.mono (fun x hx => ⟨⟨hx.1.1, Nat.lt_of_lt_of_le hx.1.2 k.size⟩, hx.2⟩)⟩
theorem ValS.mono {B0 B1 L M L' M' : Nat} {W : World} {h : Hd} {a : Option Addr} {c : Nat} {F : Vo} (x : ValS B0 L M W h a c F) (hB : B1 ≤ B0) (hL : L ≤ L') (hM : M ≤ M') : ValS B1 L' M' W h a c F := by
  obtain ⟨⟨⟨h2, h3, h4⟩, h5, h5'⟩, h6, h1, hk, hBl⟩ := x
  exact ⟨⟨⟨by omega, by omega, h4⟩, by omega, h5'⟩, own_mono h6 hB, own_mono h1 hB, hk, hBl.mono (fun x hx => ⟨⟨by omega, hx.1.2⟩, hx.2⟩)⟩
theorem oneV_wt {B0 L M : Nat} {w : World} {h : Hd} {a : Option Addr} {c : Nat} {F : Vo} (x : ValS B0 L M w h a c F) (hL : L ≤ 4) : (oneV h a c F).wt ≤ 60 * (oneV h a c F).size := by
  obtain ⟨⟨⟨_, _, h4, _⟩, h5, h6, h7⟩, _⟩ := x
  have := sWt_le h7
  show h.t.size + F.wt + sWt h.ns + 1 + 0 ≤ 60 * (F.size + 1 + 0)
  omega
theorem oneV_few {B0 L M : Nat} {w : World} {h : Hd} {a : Option Addr} {c : Nat} {F : Vo} (x : ValS B0 L M w h a c F) (hL : L ≤ 4) : (oneV h a c F).few 4 := by
  obtain ⟨⟨⟨_, _, _, h4⟩, h5, _⟩, _⟩ := x
  exact ⟨by omega, h4.1, trivial⟩
theorem oneV_nob {B0 L M : Nat} {w : World} {h : Hd} {a : Option Addr} {c : Nat} {F : Vo} (x : ValS B0 L M w h a c F) : (oneV h a c F).nob := ⟨⟨x.1.1.2.2.2.2.1, x.1.2.2.1, x.1.2.2.2⟩, x.1.1.2.2.2.2.2, trivial⟩
/-- how great a drawn value may be -/
def szD : Nat → Nat
  | 0 => 0
  | d + 1 => 3 * (szD d + 1)
/-- how often it is picked -/
def pkD : Nat → Nat
  | 0 => 30
  | d + 1 => 30 + 3 * (pkD d + 4)
/-- what l14Value answers -/
def DrawC (w0 : World) (B b : Nat) (a : Option Addr) (len cap d : Nat) : Prop := ∀ (p : Int) (W : World), Rd w0 B b a len cap p W → p + pkD d ≤ 80000 →
  Calls Try.prog 43 #[.pointer (some ⟨b, 0, none⟩), .int .i64 (d : Nat)] W fun e w' => ∃ h F av c p', e = .returned (valV h av F.len c) ∧ ValS W.heap.size 3 (szD d) w' h av c F ∧ p' ≤ p + pkD d ∧ Rd w0 B b a len cap p' w' ∧ Otb b W w'
end Go.Proofs.Ytalncebnahlmdaa
/- Drawn values: l14Value's two regions that draw: an item more, a field more. -/
namespace Go.Proofs.Ytalncebnahlmdaa
open Go.RowKit
set_option maxRecDepth 100000 in
set_option maxHeartbeats 2000000 in
theorem u14 {Q : Exit → Act → World → Prop} {t2 t3 t4 t5 t7 t8 t9 t10 t11 t12 t13 t14 t15 t16 t17 t18 t19 t20 t21 t22 t23 t24 t25 t26 t27 t28 t29 t30 t31 t32 t33 t34 t35 t36 t37 t38 t39 t40 t41 t42 t43 t44 t45 t46 t47 t48 t49 t50 t51 t52 t53 t54 t55 t56 t57 t58 t59 t60 t61 t62 t63 t64 t65 : Value} {w0 : World} {B b : Nat} {a : Option Addr} {len cap d : Nat} {D p : Int} {W : World} {vb B0 n c : Nat} {av : Option Addr} {F : Vo}
    (H : DrawC w0 B b a len cap d) (hR : Rd w0 B b a len cap p W) (hq : p + pkD d ≤ 80000) (hd : d ≤ 1000) (hD : D = (d : Int) + 1) (hvb : ¬ vb = b) (hvB : vb < B0) (hbB : b < B0) (hBW : B0 ≤ W.heap.size) (hv : W.cell? ⟨vb, 4, none⟩ = some (.slice av n c)) (hvf : W.frozen? ⟨vb, 4, none⟩ = false) (hown : W.ownsRow B0 28 6 (.slice av n c) n F.cells) (hn : n ≤ 10)
    (hp : ∀ p d v a w, Q (.panic p) (Act.put a d v) w → Q (.panic p) a w) (h : ∀ ws v' h G ag cg p' v36 v37 v38 v39 v40 v41 v42 v44, Otr b (blkOf av) W ws → Rd w0 B b a len cap p' ws → p' ≤ p + pkD d → ValS W.heap.size 3 (szD d) ws h ag cg G → ws.ownsRow B0 28 6 v' (n + 1) (F.app (oneV h ag cg G)).cells → (v'.ownBlock = blkOf av ∨ ∃ g, v'.ownBlock = some g ∧ W.heap.size ≤ g ∧ (oneV h ag cg G).Blk (fun x => x < g)) → Q .normal { tmps := (.pointer (some ⟨b, 0, none⟩) :: .int .i64 D :: t2 :: t3 :: t4 :: t5 :: .pointer (some ⟨vb, 0, none⟩) :: t7 :: t8 :: t9 :: t10 :: t11 :: t12 :: t13 :: t14 :: t15 :: t16 :: t17 :: t18 :: t19 :: t20 :: t21 :: t22 :: t23 :: t24 :: t25 :: t26 :: t27 :: t28 :: t29 :: t30 :: t31 :: t32 :: t33 :: t34 :: t35 :: v36 :: v37 :: v38 :: v39 :: v40 :: v41 :: v42 :: v' :: v44 :: t45 :: t46 :: t47 :: t48 :: t49 :: t50 :: t51 :: t52 :: t53 :: t54 :: t55 :: t56 :: t57 :: t58 :: t59 :: t60 :: t61 :: t62 :: t63 :: t64 :: t65 :: []).toArray, defers := [] } (ws.setCell ⟨vb, 4, none⟩ v')) :
    Code.wp Try.prog (Code.region 14 #[{ dst := some 36, op := Op.fieldAddr 28 (Operand.tmp 6) 3, type := 0, pos := "l14_draw.go:577", after := #[], guard := none }, { dst := some 37, op := Op.load 25 (Operand.tmp 36), type := 25, pos := "l14_draw.go:577", after := #[{ on := 0, ground := Ground.data }], guard := none }, { dst := some 38, op := Op.move (Operand.tmp 0), type := 42, pos := "l14_draw.go:577", after := #[], guard := none }, { dst := some 39, op := Op.move (Operand.tmp 1), type := 3, pos := "l14_draw.go:577", after := #[], guard := none }, { dst := some 40, op := Op.binOp BinOp.sub 3 (Operand.tmp 39) (Operand.const (Value.int IntKind.i64 1)) 3, type := 3, pos := "l14_draw.go:577", after := #[{ on := 3, ground := Ground.data }], guard := none }, { dst := some 41, op := Op.call { callee := Callee.value (Operand.func 43), args := #[Operand.tmp 38, Operand.tmp 40], argTypes := #[42, 3] }, type := 28, pos := "l14_draw.go:577", after := #[{ on := 2, ground := Ground.data }, { on := 4, ground := Ground.data }], guard := none }, { dst := some 42, op := Op.buildSlice 25 1 #[(0, Operand.tmp 41)], type := 25, pos := "l14_draw.go:577", after := #[{ on := 5, ground := Ground.data }], guard := none }, { dst := some 43, op := Op.call { callee := Callee.builtin Builtin.append, args := #[Operand.tmp 37, Operand.tmp 42], argTypes := #[25, 25] }, type := 25, pos := "l14_draw.go:577", after := #[{ on := 1, ground := Ground.data }, { on := 6, ground := Ground.data }, { on := 5, ground := Ground.chain }], guard := none }, { dst := some 44, op := Op.fieldAddr 28 (Operand.tmp 6) 3, type := 0, pos := "l14_draw.go:577", after := #[{ on := 0, ground := Ground.phase }, { on := 1, ground := Ground.phase }, { on := 2, ground := Ground.phase }, { on := 3, ground := Ground.phase }, { on := 4, ground := Ground.phase }, { on := 5, ground := Ground.phase }, { on := 6, ground := Ground.phase }, { on := 7, ground := Ground.phase }], guard := none }, { dst := none, op := Op.store 25 (Operand.tmp 44) (Operand.tmp 43), type := 0, pos := "l14_draw.go:577", after := #[{ on := 8, ground := Ground.data }, { on := 7, ground := Ground.data }, { on := 7, ground := Ground.chain }, { on := 0, ground := Ground.phase }, { on := 1, ground := Ground.phase }, { on := 2, ground := Ground.phase }, { on := 3, ground := Ground.phase }, { on := 4, ground := Ground.phase }, { on := 5, ground := Ground.phase }, { on := 6, ground := Ground.phase }, { on := 7, ground := Ground.phase }], guard := none }] true) Q { tmps := (.pointer (some ⟨b, 0, none⟩) :: .int .i64 D :: t2 :: t3 :: t4 :: t5 :: .pointer (some ⟨vb, 0, none⟩) :: t7 :: t8 :: t9 :: t10 :: t11 :: t12 :: t13 :: t14 :: t15 :: t16 :: t17 :: t18 :: t19 :: t20 :: t21 :: t22 :: t23 :: t24 :: t25 :: t26 :: t27 :: t28 :: t29 :: t30 :: t31 :: t32 :: t33 :: t34 :: t35 :: t36 :: t37 :: t38 :: t39 :: t40 :: t41 :: t42 :: t43 :: t44 :: t45 :: t46 :: t47 :: t48 :: t49 :: t50 :: t51 :: t52 :: t53 :: t54 :: t55 :: t56 :: t57 :: t58 :: t59 :: t60 :: t61 :: t62 :: t63 :: t64 :: t65 :: []).toArray, defers := [] } W := by
  obtain ⟨i0, hi, hz0, hz1, hz2⟩ := info_parts valInfo
  have hvl := World.block_lt_of_cell? W _ hv
  have hbl := hR.lt
  have HO : Hid (∀ w', Otb b W w' → (w'.cell? ⟨vb, 4, none⟩ = some (.slice av n c) ∧ w'.frozen? ⟨vb, 4, none⟩ = false)) := fun w' h => ⟨(h.cell hvl hvb).trans hv, (h.frozen hvl hvb).trans hvf⟩
  have HW : Hid (∀ w', Otb b W w' → w'.ownsRow B0 28 6 (.slice av n c) n F.cells) := fun w' h => h.own hown hbB
  have HR : Hid (Rd w0 B b a len cap p W.drew) := hR.below ((Below.refl _ _).drew)
  have HZ : Hid (W.drew.heap.size = W.heap.size) := rfl
  have hO := (Otb.refl b W).drew
  have HOd : Hid (Otb b W W.drew) := hO
  have HDD : Hid (D = (d : Int) + 1) := hD
  clear hv hvf hown hR hD
  refine wp_region_held_drew (S := fun _ => True) (by kernel_rfl) trivial (fun _ => ?_)
  generalize W.drew = Wd at *
  have hSw : (fun _ : World => True) Wd := trivial
  refine wpAnyH_take (i := 0) (v := .pointer (some ⟨vb, 4, none⟩)) rfl (by kernel_rfl) (by kernel_rfl) (by kernel_rfl) (fun _ _ _ h => hp _ _ _ _ _ h) (Or.inl ⟨by rfl, ?_⟩) (by assumption) ?_
  · intro w hSw
    (try dsimp only at hSw)
    go_simp
  (try simp only [Act.put, List.getElem_toArray, List.getElem_cons_zero, List.setIfInBounds_toArray, List.set_cons_zero, List.set_cons_succ])
  refine wpAnyH_take (i := 2) (v := .pointer (some ⟨b, 0, none⟩)) rfl (by kernel_rfl) (by kernel_rfl) (by kernel_rfl) (fun _ _ _ h => hp _ _ _ _ _ h) (Or.inl ⟨by rfl, ?_⟩) (by assumption) ?_
  · intro w hSw
    (try dsimp only at hSw)
    go_simp
  (try simp only [Act.put, List.getElem_toArray, List.getElem_cons_zero, List.getElem_cons_succ, List.setIfInBounds_toArray, List.set_cons_zero, List.set_cons_succ])
  refine wpAnyH_take (i := 3) (v := .int .i64 D) rfl (by kernel_rfl) (by kernel_rfl) (by kernel_rfl) (fun _ _ _ h => hp _ _ _ _ _ h) (Or.inl ⟨by rfl, ?_⟩) (by assumption) ?_
  · intro w hSw
    (try dsimp only at hSw)
    go_simp
  (try simp only [Act.put, List.getElem_toArray, List.getElem_cons_zero, List.getElem_cons_succ, List.setIfInBounds_toArray, List.set_cons_zero, List.set_cons_succ])
  refine wpAnyH_take (i := 4) (v := .int .i64 (d : Nat)) rfl (by kernel_rfl) (by kernel_rfl) (by kernel_rfl) (fun _ _ _ h => hp _ _ _ _ _ h) (Or.inl ⟨by rfl, ?_⟩) (by assumption) ?_
  · intro w hSw
    (try dsimp only at hSw)
    (go_simp; rw [IntKind.wrap_i64] <;> (have := HDD.out; omega))
  (try simp only [Act.put, List.getElem_toArray, List.getElem_cons_zero, List.getElem_cons_succ, List.setIfInBounds_toArray, List.set_cons_zero, List.set_cons_succ])
  clear hSw
  refine wpAnyH_ready (rs := [1, 5]) (by kernel_rfl) (by simp) ?_
  refine AllReadyH.cons rfl (fun K hK => ?_) (AllReadyH.cons rfl (fun K hK => ?_) AllReadyH.nil)
  · skip
    obtain ⟨hcl, _⟩ := HO.out _ hO
    go_simp
    refine hK.out _ _ trivial (fun _ => ?_)
    clear hK K hcl
    (try simp only [Act.put, List.getElem_toArray, List.getElem_cons_zero, List.getElem_cons_succ, List.setIfInBounds_toArray, List.set_cons_zero, List.set_cons_succ])
    refine wpAnyH_ready (rs := [5]) (by kernel_rfl) (by simp) ?_
    refine AllReadyH.cons rfl (fun K hK => ?_) AllReadyH.nil
    have hH := H p Wd HR.out hq
    go_simp
    refine hH.mono ?_
    rintro r w1 ⟨h1, G, ag, cg, p1, rfl, hval, hp1, hR1, hO1⟩
    have hO1' := HOd.out.trans hO1
    go_wp2_with fail
    refine hK.out _ _ trivial (fun _ => ?_)
    clear hK K hH hO hO1
    have hO := hO1'
    clear hO1'
    refine wpAnyH_ready (rs := [6]) (by kernel_rfl) (by simp) ?_
    refine AllReadyH.cons rfl (fun K hK => ?_) AllReadyH.nil
    go_simp
    have hO2 := hO.alloc (.cells #[.int .i64 h1.k, .int .i64 h1.m, .int .i64 h1.e, .string h1.t, .slice ag G.len cg, .slice h1.na h1.ns.length h1.nc] 28)
    have hel : Own0 (w1.alloc (.cells #[.int .i64 h1.k, .int .i64 h1.m, .int .i64 h1.e, .string h1.t, .slice ag G.len cg, .slice h1.na h1.ns.length h1.nc] 28)) W.heap.size w1.heap.size (six h1 ag G.len cg) := Own0.new w1 W.heap.size [.int .i64 h1.k, .int .i64 h1.m, .int .i64 h1.e, .string h1.t, .slice ag G.len cg, .slice h1.na h1.ns.length h1.nc] 28 hO.1
    have hbW : Below w1.heap.size w1 (w1.alloc (.cells #[.int .i64 h1.k, .int .i64 h1.m, .int .i64 h1.e, .string h1.t, .slice ag G.len cg, .slice h1.na h1.ns.length h1.nc] 28)) := (Below.refl _ _).alloc (Nat.le_refl _) _
    have hsz : (w1.alloc (.cells #[.int .i64 h1.k, .int .i64 h1.m, .int .i64 h1.e, .string h1.t, .slice ag G.len cg, .slice h1.na h1.ns.length h1.nc] 28)).heap.size = w1.heap.size + 1 := by simp
    have hval2 := hval.below hbW
    have hR2 := hR1.below hbW
    have hbl2 := hval.blk
    refine hK.out _ _ trivial (fun _ => ?_)
    clear hK K hR1 hbW hO
    have HSZ : Hid ((w1.alloc (.cells #[.int .i64 h1.k, .int .i64 h1.m, .int .i64 h1.e, .string h1.t, .slice ag G.len cg, .slice h1.na h1.ns.length h1.nc] 28)).heap.size = w1.heap.size + 1) := hsz
    have HBL : Hid ((oneV h1 ag cg G).Blk (fun x => Wd.heap.size ≤ x ∧ x < w1.heap.size)) := hbl2
    clear hsz hbl2
    obtain ⟨g1, hg1⟩ : ∃ g, w1.heap.size = g := ⟨_, rfl⟩
    rw [hg1] at hel HSZ HBL ⊢
    generalize w1.alloc (.cells #[.int .i64 h1.k, .int .i64 h1.m, .int .i64 h1.e, .string h1.t, .slice ag G.len cg, .slice h1.na h1.ns.length h1.nc] 28) = w2 at *
    clear hg1 hval
    have hO := hO2
    clear hO2
    refine wpAnyH_ready (rs := [7]) (by kernel_rfl) (by simp) ?_
    refine AllReadyH.cons rfl (fun K hK => ?_) AllReadyH.nil
    have hown := HW.out _ hO
    refine wp_append_lie w2 _ _ 25 rfl B0 28 i0 _ 6 88 Try.underlying25 hi hz0 hz1 hz2 rfl (by decide) (.slice av n c) n F.cells rfl hown (some ⟨g1, 0, none⟩) 1 1 (six h1 ag G.len cg) rfl rfl (hel.src 1) six_one (by unfold maxLen; omega) (by omega) (by have := hO.1; omega) ?_
    intro v' w3 hown3 hgr hob
    rw [ownBlock_blkOf] at hgr hob
    have hO3 := (hO.otr (blkOf av)).grown hgr
    have hlt3 : ∀ g, blkOf av = some g → g < W.heap.size := fun g hg => by
      have h5 := (HW.out _ HOd.out).lt g (by rw [ownBlock_blkOf]; exact hg)
      have := HZ.out
      omega
    have hge3 : ∀ g, blkOf av = some g → B0 ≤ g := fun g hg => ((HW.out _ HOd.out).lt g (by rw [ownBlock_blkOf]; exact hg)).1
    have hval3 : ValS W.heap.size 3 (szD d) w3 h1 ag cg G := by rw [← HZ.out]; exact hval2.otr ((Otr.refl b (blkOf av) w2).grown hgr) (by have := HZ.out; omega) (fun g hg => by have := hlt3 g hg; have := HZ.out; omega)
    have hR3 : Rd w0 B b a len cap p1 w3 := hR2.uptoU (B' := B0) ((Below.refl _ _).grown hgr (by have := hO.1; omega) hge3) hbB (by have := hR2.base_leU; omega)
    have hS3 : w3.cell? ⟨vb, 4, none⟩ = some (.slice av n c) ∧ w3.frozen? ⟨vb, 4, none⟩ = false := ⟨(hgr.cell (HO.out _ hO).1 (fun e => by have := hge3 vb e.symm; omega)), by
      rw [World.frozen?_of_block (a := ⟨vb, 4, none⟩) (hgr.block vb (World.block_lt_of_cell? w2 _ (HO.out _ hO).1) (fun e => by have := hge3 vb e.symm; omega))]; exact (HO.out _ hO).2⟩
    have HC : Hid (w3.ownsRow B0 28 6 v' (n + 1) (F.app (oneV h1 ag cg G)).cells) := by unfold Hid; rw [Vo.app_cells, Vo.cells_oneV]; exact hown3
    have HOB : Hid (v'.ownBlock = blkOf av ∨ ∃ g, v'.ownBlock = some g ∧ W.heap.size ≤ g ∧ (oneV h1 ag cg G).Blk (fun x => x < g)) := by
      rcases hob with hob | hob
      · exact .inl hob
      · exact .inr ⟨_, hob, hO.1, HBL.out.mono (fun x hx => by have := HSZ.out; omega)⟩
    refine hK.out _ _ trivial (fun _ => ?_)
    clear hK K hown3 hgr hob hval2 hR2 hown hel hO
    (try simp only [Act.put, List.getElem_toArray, List.getElem_cons_zero, List.getElem_cons_succ, List.setIfInBounds_toArray, List.set_cons_zero, List.set_cons_succ])
    have hSw : (fun _ : World => True) w3 := trivial
    refine wpAnyH_take (i := 8) (v := .pointer (some ⟨vb, 4, none⟩)) rfl (by kernel_rfl) (by kernel_rfl) (by kernel_rfl) (fun _ _ _ h => hp _ _ _ _ _ h) (Or.inl ⟨by rfl, ?_⟩) (by assumption) ?_
    · intro w hSw
      (try dsimp only at hSw)
      go_simp
    (try simp only [Act.put, List.getElem_toArray, List.getElem_cons_zero, List.getElem_cons_succ, List.setIfInBounds_toArray, List.set_cons_zero, List.set_cons_succ])
    obtain ⟨g9, c9, rfl, _, _⟩ := HC.out.form (by omega)
    obtain ⟨hc3, hf3⟩ := hS3
    refine wpAnyH_ready (rs := [9]) (by kernel_rfl) (by simp) ?_
    refine AllReadyH.cons rfl (fun K hK => ?_) AllReadyH.nil
    go_simp
    refine hK.out _ _ trivial (fun _ => ?_)
    refine wpAnyH_done (by kernel_rfl) ?_ _
    exact h _ _ _ _ _ _ _ _ _ _ _ _ _ _ _ hO3 hR3 hp1 hval3 HC.out HOB.out
  · skip
    have hH := H p Wd HR.out hq
    go_simp
    refine hH.mono ?_
    rintro r w1 ⟨h1, G, ag, cg, p1, rfl, hval, hp1, hR1, hO1⟩
    have hO1' := HOd.out.trans hO1
    go_wp2_with fail
    refine hK.out _ _ trivial (fun _ => ?_)
    clear hK K hH hO hO1
    have hO := hO1'
    clear hO1'
    refine wpAnyH_ready (rs := [1, 6]) (by kernel_rfl) (by simp) ?_
    refine AllReadyH.cons rfl (fun K hK => ?_) (AllReadyH.cons rfl (fun K hK => ?_) AllReadyH.nil)
    · skip
      obtain ⟨hcl, _⟩ := HO.out _ hO
      go_simp
      refine hK.out _ _ trivial (fun _ => ?_)
      clear hK K hcl
      (try simp only [Act.put, List.getElem_toArray, List.getElem_cons_zero, List.getElem_cons_succ, List.setIfInBounds_toArray, List.set_cons_zero, List.set_cons_succ])
      refine wpAnyH_ready (rs := [6]) (by kernel_rfl) (by simp) ?_
      refine AllReadyH.cons rfl (fun K hK => ?_) AllReadyH.nil
      go_simp
      have hO2 := hO.alloc (.cells #[.int .i64 h1.k, .int .i64 h1.m, .int .i64 h1.e, .string h1.t, .slice ag G.len cg, .slice h1.na h1.ns.length h1.nc] 28)
      have hel : Own0 (w1.alloc (.cells #[.int .i64 h1.k, .int .i64 h1.m, .int .i64 h1.e, .string h1.t, .slice ag G.len cg, .slice h1.na h1.ns.length h1.nc] 28)) W.heap.size w1.heap.size (six h1 ag G.len cg) := Own0.new w1 W.heap.size [.int .i64 h1.k, .int .i64 h1.m, .int .i64 h1.e, .string h1.t, .slice ag G.len cg, .slice h1.na h1.ns.length h1.nc] 28 hO.1
      have hbW : Below w1.heap.size w1 (w1.alloc (.cells #[.int .i64 h1.k, .int .i64 h1.m, .int .i64 h1.e, .string h1.t, .slice ag G.len cg, .slice h1.na h1.ns.length h1.nc] 28)) := (Below.refl _ _).alloc (Nat.le_refl _) _
      have hsz : (w1.alloc (.cells #[.int .i64 h1.k, .int .i64 h1.m, .int .i64 h1.e, .string h1.t, .slice ag G.len cg, .slice h1.na h1.ns.length h1.nc] 28)).heap.size = w1.heap.size + 1 := by simp
      have hval2 := hval.below hbW
      have hR2 := hR1.below hbW
      have hbl2 := hval.blk
      refine hK.out _ _ trivial (fun _ => ?_)
      clear hK K hR1 hbW hO
      have HSZ : Hid ((w1.alloc (.cells #[.int .i64 h1.k, .int .i64 h1.m, .int .i64 h1.e, .string h1.t, .slice ag G.len cg, .slice h1.na h1.ns.length h1.nc] 28)).heap.size = w1.heap.size + 1) := hsz
      have HBL : Hid ((oneV h1 ag cg G).Blk (fun x => Wd.heap.size ≤ x ∧ x < w1.heap.size)) := hbl2
      clear hsz hbl2
      obtain ⟨g1, hg1⟩ : ∃ g, w1.heap.size = g := ⟨_, rfl⟩
      rw [hg1] at hel HSZ HBL ⊢
      generalize w1.alloc (.cells #[.int .i64 h1.k, .int .i64 h1.m, .int .i64 h1.e, .string h1.t, .slice ag G.len cg, .slice h1.na h1.ns.length h1.nc] 28) = w2 at *
      clear hg1 hval
      have hO := hO2
      clear hO2
      refine wpAnyH_ready (rs := [7]) (by kernel_rfl) (by simp) ?_
      refine AllReadyH.cons rfl (fun K hK => ?_) AllReadyH.nil
      have hown := HW.out _ hO
      refine wp_append_lie w2 _ _ 25 rfl B0 28 i0 _ 6 88 Try.underlying25 hi hz0 hz1 hz2 rfl (by decide) (.slice av n c) n F.cells rfl hown (some ⟨g1, 0, none⟩) 1 1 (six h1 ag G.len cg) rfl rfl (hel.src 1) six_one (by unfold maxLen; omega) (by omega) (by have := hO.1; omega) ?_
      intro v' w3 hown3 hgr hob
      rw [ownBlock_blkOf] at hgr hob
      have hO3 := (hO.otr (blkOf av)).grown hgr
      have hlt3 : ∀ g, blkOf av = some g → g < W.heap.size := fun g hg => by
        have h5 := (HW.out _ HOd.out).lt g (by rw [ownBlock_blkOf]; exact hg)
        have := HZ.out
        omega
      have hge3 : ∀ g, blkOf av = some g → B0 ≤ g := fun g hg => ((HW.out _ HOd.out).lt g (by rw [ownBlock_blkOf]; exact hg)).1
      have hval3 : ValS W.heap.size 3 (szD d) w3 h1 ag cg G := by rw [← HZ.out]; exact hval2.otr ((Otr.refl b (blkOf av) w2).grown hgr) (by have := HZ.out; omega) (fun g hg => by have := hlt3 g hg; have := HZ.out; omega)
      have hR3 : Rd w0 B b a len cap p1 w3 := hR2.uptoU (B' := B0) ((Below.refl _ _).grown hgr (by have := hO.1; omega) hge3) hbB (by have := hR2.base_leU; omega)
      have hS3 : w3.cell? ⟨vb, 4, none⟩ = some (.slice av n c) ∧ w3.frozen? ⟨vb, 4, none⟩ = false := ⟨(hgr.cell (HO.out _ hO).1 (fun e => by have := hge3 vb e.symm; omega)), by
        rw [World.frozen?_of_block (a := ⟨vb, 4, none⟩) (hgr.block vb (World.block_lt_of_cell? w2 _ (HO.out _ hO).1) (fun e => by have := hge3 vb e.symm; omega))]; exact (HO.out _ hO).2⟩
      have HC : Hid (w3.ownsRow B0 28 6 v' (n + 1) (F.app (oneV h1 ag cg G)).cells) := by unfold Hid; rw [Vo.app_cells, Vo.cells_oneV]; exact hown3
      have HOB : Hid (v'.ownBlock = blkOf av ∨ ∃ g, v'.ownBlock = some g ∧ W.heap.size ≤ g ∧ (oneV h1 ag cg G).Blk (fun x => x < g)) := by
        rcases hob with hob | hob
        · exact .inl hob
        · exact .inr ⟨_, hob, hO.1, HBL.out.mono (fun x hx => by have := HSZ.out; omega)⟩
      refine hK.out _ _ trivial (fun _ => ?_)
      clear hK K hown3 hgr hob hval2 hR2 hown hel hO
      (try simp only [Act.put, List.getElem_toArray, List.getElem_cons_zero, List.getElem_cons_succ, List.setIfInBounds_toArray, List.set_cons_zero, List.set_cons_succ])
      have hSw : (fun _ : World => True) w3 := trivial
      refine wpAnyH_take (i := 8) (v := .pointer (some ⟨vb, 4, none⟩)) rfl (by kernel_rfl) (by kernel_rfl) (by kernel_rfl) (fun _ _ _ h => hp _ _ _ _ _ h) (Or.inl ⟨by rfl, ?_⟩) (by assumption) ?_
      · intro w hSw
        (try dsimp only at hSw)
        go_simp
      (try simp only [Act.put, List.getElem_toArray, List.getElem_cons_zero, List.getElem_cons_succ, List.setIfInBounds_toArray, List.set_cons_zero, List.set_cons_succ])
      obtain ⟨g9, c9, rfl, _, _⟩ := HC.out.form (by omega)
      obtain ⟨hc3, hf3⟩ := hS3
      refine wpAnyH_ready (rs := [9]) (by kernel_rfl) (by simp) ?_
      refine AllReadyH.cons rfl (fun K hK => ?_) AllReadyH.nil
      go_simp
      refine hK.out _ _ trivial (fun _ => ?_)
      refine wpAnyH_done (by kernel_rfl) ?_ _
      exact h _ _ _ _ _ _ _ _ _ _ _ _ _ _ _ hO3 hR3 hp1 hval3 HC.out HOB.out
    · skip
      go_simp
      have hO2 := hO.alloc (.cells #[.int .i64 h1.k, .int .i64 h1.m, .int .i64 h1.e, .string h1.t, .slice ag G.len cg, .slice h1.na h1.ns.length h1.nc] 28)
      have hel : Own0 (w1.alloc (.cells #[.int .i64 h1.k, .int .i64 h1.m, .int .i64 h1.e, .string h1.t, .slice ag G.len cg, .slice h1.na h1.ns.length h1.nc] 28)) W.heap.size w1.heap.size (six h1 ag G.len cg) := Own0.new w1 W.heap.size [.int .i64 h1.k, .int .i64 h1.m, .int .i64 h1.e, .string h1.t, .slice ag G.len cg, .slice h1.na h1.ns.length h1.nc] 28 hO.1
      have hbW : Below w1.heap.size w1 (w1.alloc (.cells #[.int .i64 h1.k, .int .i64 h1.m, .int .i64 h1.e, .string h1.t, .slice ag G.len cg, .slice h1.na h1.ns.length h1.nc] 28)) := (Below.refl _ _).alloc (Nat.le_refl _) _
      have hsz : (w1.alloc (.cells #[.int .i64 h1.k, .int .i64 h1.m, .int .i64 h1.e, .string h1.t, .slice ag G.len cg, .slice h1.na h1.ns.length h1.nc] 28)).heap.size = w1.heap.size + 1 := by simp
      have hval2 := hval.below hbW
      have hR2 := hR1.below hbW
      have hbl2 := hval.blk
      refine hK.out _ _ trivial (fun _ => ?_)
      clear hK K hR1 hbW hO
      have HSZ : Hid ((w1.alloc (.cells #[.int .i64 h1.k, .int .i64 h1.m, .int .i64 h1.e, .string h1.t, .slice ag G.len cg, .slice h1.na h1.ns.length h1.nc] 28)).heap.size = w1.heap.size + 1) := hsz
      have HBL : Hid ((oneV h1 ag cg G).Blk (fun x => Wd.heap.size ≤ x ∧ x < w1.heap.size)) := hbl2
      clear hsz hbl2
      obtain ⟨g1, hg1⟩ : ∃ g, w1.heap.size = g := ⟨_, rfl⟩
      rw [hg1] at hel HSZ HBL ⊢
      generalize w1.alloc (.cells #[.int .i64 h1.k, .int .i64 h1.m, .int .i64 h1.e, .string h1.t, .slice ag G.len cg, .slice h1.na h1.ns.length h1.nc] 28) = w2 at *
      clear hg1 hval
      have hO := hO2
      clear hO2
      refine wpAnyH_ready (rs := [1]) (by kernel_rfl) (by simp) ?_
      refine AllReadyH.cons rfl (fun K hK => ?_) AllReadyH.nil
      obtain ⟨hcl, _⟩ := HO.out _ hO
      go_simp
      refine hK.out _ _ trivial (fun _ => ?_)
      clear hK K hcl
      (try simp only [Act.put, List.getElem_toArray, List.getElem_cons_zero, List.getElem_cons_succ, List.setIfInBounds_toArray, List.set_cons_zero, List.set_cons_succ])
      refine wpAnyH_ready (rs := [7]) (by kernel_rfl) (by simp) ?_
      refine AllReadyH.cons rfl (fun K hK => ?_) AllReadyH.nil
      have hown := HW.out _ hO
      refine wp_append_lie w2 _ _ 25 rfl B0 28 i0 _ 6 88 Try.underlying25 hi hz0 hz1 hz2 rfl (by decide) (.slice av n c) n F.cells rfl hown (some ⟨g1, 0, none⟩) 1 1 (six h1 ag G.len cg) rfl rfl (hel.src 1) six_one (by unfold maxLen; omega) (by omega) (by have := hO.1; omega) ?_
      intro v' w3 hown3 hgr hob
      rw [ownBlock_blkOf] at hgr hob
      have hO3 := (hO.otr (blkOf av)).grown hgr
      have hlt3 : ∀ g, blkOf av = some g → g < W.heap.size := fun g hg => by
        have h5 := (HW.out _ HOd.out).lt g (by rw [ownBlock_blkOf]; exact hg)
        have := HZ.out
        omega
      have hge3 : ∀ g, blkOf av = some g → B0 ≤ g := fun g hg => ((HW.out _ HOd.out).lt g (by rw [ownBlock_blkOf]; exact hg)).1
      have hval3 : ValS W.heap.size 3 (szD d) w3 h1 ag cg G := by rw [← HZ.out]; exact hval2.otr ((Otr.refl b (blkOf av) w2).grown hgr) (by have := HZ.out; omega) (fun g hg => by have := hlt3 g hg; have := HZ.out; omega)
      have hR3 : Rd w0 B b a len cap p1 w3 := hR2.uptoU (B' := B0) ((Below.refl _ _).grown hgr (by have := hO.1; omega) hge3) hbB (by have := hR2.base_leU; omega)
      have hS3 : w3.cell? ⟨vb, 4, none⟩ = some (.slice av n c) ∧ w3.frozen? ⟨vb, 4, none⟩ = false := ⟨(hgr.cell (HO.out _ hO).1 (fun e => by have := hge3 vb e.symm; omega)), by
        rw [World.frozen?_of_block (a := ⟨vb, 4, none⟩) (hgr.block vb (World.block_lt_of_cell? w2 _ (HO.out _ hO).1) (fun e => by have := hge3 vb e.symm; omega))]; exact (HO.out _ hO).2⟩
      have HC : Hid (w3.ownsRow B0 28 6 v' (n + 1) (F.app (oneV h1 ag cg G)).cells) := by unfold Hid; rw [Vo.app_cells, Vo.cells_oneV]; exact hown3
      have HOB : Hid (v'.ownBlock = blkOf av ∨ ∃ g, v'.ownBlock = some g ∧ W.heap.size ≤ g ∧ (oneV h1 ag cg G).Blk (fun x => x < g)) := by
        rcases hob with hob | hob
        · exact .inl hob
        · exact .inr ⟨_, hob, hO.1, HBL.out.mono (fun x hx => by have := HSZ.out; omega)⟩
      refine hK.out _ _ trivial (fun _ => ?_)
      clear hK K hown3 hgr hob hval2 hR2 hown hel hO
      (try simp only [Act.put, List.getElem_toArray, List.getElem_cons_zero, List.getElem_cons_succ, List.setIfInBounds_toArray, List.set_cons_zero, List.set_cons_succ])
      have hSw : (fun _ : World => True) w3 := trivial
      refine wpAnyH_take (i := 8) (v := .pointer (some ⟨vb, 4, none⟩)) rfl (by kernel_rfl) (by kernel_rfl) (by kernel_rfl) (fun _ _ _ h => hp _ _ _ _ _ h) (Or.inl ⟨by rfl, ?_⟩) (by assumption) ?_
      · intro w hSw
        (try dsimp only at hSw)
        go_simp
      (try simp only [Act.put, List.getElem_toArray, List.getElem_cons_zero, List.getElem_cons_succ, List.setIfInBounds_toArray, List.set_cons_zero, List.set_cons_succ])
      obtain ⟨g9, c9, rfl, _, _⟩ := HC.out.form (by omega)
      obtain ⟨hc3, hf3⟩ := hS3
      refine wpAnyH_ready (rs := [9]) (by kernel_rfl) (by simp) ?_
      refine AllReadyH.cons rfl (fun K hK => ?_) AllReadyH.nil
      go_simp
      refine hK.out _ _ trivial (fun _ => ?_)
      refine wpAnyH_done (by kernel_rfl) ?_ _
      exact h _ _ _ _ _ _ _ _ _ _ _ _ _ _ _ hO3 hR3 hp1 hval3 HC.out HOB.out
end Go.Proofs.Ytalncebnahlmdaa
