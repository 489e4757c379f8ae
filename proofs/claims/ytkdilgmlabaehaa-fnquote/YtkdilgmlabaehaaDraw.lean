/- Contracts of the drawing functions: pick, one, l1Open. What is drawn is whatever it is; only where it is written, and its bounds, are told. -/
import Derived.Test.YtkdilgmlabaehaaRows
import Derived.WalkKit
import Derived.WalkSpells
import Derived.WalkLawsBesides
import Derived.Below
import Derived.OpenShut
import Derived.Deep.QuietTactic
import Derived.BigQuiet
namespace Go.Proofs.Ytkdilgmlabaehaa
open Go.RowKit

/-- what a walk is told of a slice of integers that came in -/
def IsRow (k : IntKind) (w : World) (a : Option Addr) (len cap : Nat) (zs : List Int) : Prop :=
  (a = none ∧ len = 0 ∧ cap = 0 ∧ zs = []) ∨
  ∃ x, a = some x ∧ len ≤ cap ∧ cap ≤ maxLen ∧ zs.length = cap ∧ (∀ i, i < zs.length → w.cell? (x.add i) = some (.int k (zs.getD i 0))) ∧ ∀ n ∈ zs, (Lit.int k n).wf = true

/-- a code of at most so many bytes: none, or bytes in a block below B of W -/
def Code (W : World) (B : Nat) (a : Option Addr) (len : Nat) : Prop :=
  len = 0 ∨ ∃ k off, a = some ⟨k, off, none⟩ ∧ k < B ∧ ∀ i, i < len → ∃ c : Int, 0 ≤ c ∧ c ≤ 255 ∧ W.cell? ⟨k, off + i, none⟩ = some (.int .u8 c)
theorem Code.below {W W' : World} {B : Nat} {a : Option Addr} {len : Nat} (h : Code W B a len) (hb : Below B W W') : Code W' B a len := by
  rcases h with h | ⟨k, off, h1, h2, h3⟩
  · exact .inl h
  · refine .inr ⟨k, off, h1, h2, fun i hi => ?_⟩
    obtain ⟨c, c1, c2, c3⟩ := h3 i hi
    exact ⟨c, c1, c2, (hb.cell (p := ⟨k, off + i, none⟩) h2).trans c3⟩
theorem Code.less {W : World} {B : Nat} {a : Option Addr} {len len' : Nat} (h : Code W B a len) (hl : len' ≤ len) : Code W B a len' := by
  rcases h with h | ⟨k, off, h1, h2, h3⟩
  · exact .inl (by omega)
  · exact .inr ⟨k, off, h1, h2, fun i hi => h3 i (by omega)⟩

theorem xor_i64_nonneg (x y : Int) (hx : 0 ≤ x) (hx2 : x < 4611686018427387904) (hy : 0 ≤ y) (hy2 : y < 4611686018427387904) : 0 ≤ bits .xor .i64 x y := by
  obtain ⟨a, rfl⟩ := Int.eq_ofNat_of_zero_le hx
  obtain ⟨b, rfl⟩ := Int.eq_ofNat_of_zero_le hy
  have hxor : a ^^^ b < 2 ^ 62 := Nat.xor_lt_two_pow (by omega) (by omega)
  have h1 : (BitVec.ofInt 64 (a : Int)).toNat = a := by
    rw [BitVec.ofInt_natCast, BitVec.toNat_ofNat]; exact Nat.mod_eq_of_lt (by omega)
  have h2 : (BitVec.ofInt 64 (b : Int)).toNat = b := by
    rw [BitVec.ofInt_natCast, BitVec.toNat_ofNat]; exact Nat.mod_eq_of_lt (by omega)
  show 0 ≤ IntKind.i64.wrap ((BitVec.ofInt 64 (a : Int) ^^^ BitVec.ofInt 64 (b : Int)).toNat : Int)
  rw [BitVec.toNat_xor, h1, h2, IntKind.wrap_i64]
  omega

set_option maxHeartbeats 1000000 in
theorem pick_none (W : World) (b : Nat) (a : Option Addr) (cap : Nat) (p n : Int) (h0 : W.cell? ⟨b, 0, none⟩ = some (.slice a 0 cap)) (h1 : W.cell? ⟨b, 1, none⟩ = some (.int .i64 p)) (h2 : W.frozen? ⟨b, 1, none⟩ = false) (p0 : 0 ≤ p) (p1 : p ≤ 100000) (n1 : 1 ≤ n) :
    Calls Try.prog 25 #[.pointer (some ⟨b, 0, none⟩), .int .i64 n] W fun e w' => e = .returned (.int .i64 0) ∧ w' = W.setCell ⟨b, 1, none⟩ (.int .i64 (p + 1)) := by
  go_enter Try.func25, Try.ntmps25
  go_wp2
  go_ret
  exact ⟨rfl, rfl⟩

set_option maxHeartbeats 1000000 in
theorem pick_near (W : World) (b k off len cap : Nat) (p n c : Int) (h0 : W.cell? ⟨b, 0, none⟩ = some (.slice (some ⟨k, off, none⟩) len cap)) (h1 : W.cell? ⟨b, 1, none⟩ = some (.int .i64 p)) (h2 : W.frozen? ⟨b, 1, none⟩ = false) (p0 : 0 ≤ p) (p1 : p ≤ 100000) (n1 : 1 ≤ n) (n2 : n ≤ 100000)
    (hkb : ¬ k = b) (hl0 : 0 < len) (hl1 : len ≤ 2000) (hp : p < len) (hc : W.cell? ⟨k, off + p.toNat, none⟩ = some (.int .u8 c)) (c0 : 0 ≤ c) (c1 : c ≤ 255) :
    Calls Try.prog 25 #[.pointer (some ⟨b, 0, none⟩), .int .i64 n] W fun e w' => e = .returned (.int .i64 (c % n)) ∧ w' = W.setCell ⟨b, 1, none⟩ (.int .i64 (p + 1)) := by
  have hn1 : decide (n < 1) = false := by simp; omega
  have hlen : ((len : Int) == 0) = false := by simp; omega
  go_enter Try.func25, Try.ntmps25
  go_wp2
  go_ret
  exact ⟨rfl, rfl⟩

set_option maxHeartbeats 1000000 in
theorem pick_far (W : World) (b k off len cap : Nat) (p n c d : Int) (h0 : W.cell? ⟨b, 0, none⟩ = some (.slice (some ⟨k, off, none⟩) len cap)) (h1 : W.cell? ⟨b, 1, none⟩ = some (.int .i64 p)) (h2 : W.frozen? ⟨b, 1, none⟩ = false) (p0 : 0 ≤ p) (p1 : p ≤ 100000) (n1 : 1 ≤ n) (n2 : n ≤ 100000)
    (hkb : ¬ k = b) (hl0 : 0 < len) (hl1 : len ≤ 2000) (hp : len ≤ p) (hc : W.cell? ⟨k, off + (p % len).toNat, none⟩ = some (.int .u8 c)) (c0 : 0 ≤ c) (c1 : c ≤ 255) (hd : W.cell? ⟨k, off + ((p * 7 + 3) % len).toNat, none⟩ = some (.int .u8 d)) (d0 : 0 ≤ d) (d1 : d ≤ 255) :
    Calls Try.prog 25 #[.pointer (some ⟨b, 0, none⟩), .int .i64 n] W fun e w' => (∃ v, e = .returned (.int .i64 v) ∧ 0 ≤ v ∧ v < n) ∧ ∃ j, w' = (W.setCell ⟨b, 1, none⟩ (.int .i64 (p + 1))).drewN j := by
  have hn1 : decide (n < 1) = false := by simp; omega
  have hlen : ((len : Int) == 0) = false := by simp; omega
  have hnz : (n == 0) = false := by simp; omega
  have q1 : 0 ≤ p % len := Int.emod_nonneg _ (by omega)
  have q2 : p % len < len := Int.emod_lt_of_pos _ (by omega)
  have q3 : 0 ≤ (p * 7 + 3) % len := Int.emod_nonneg _ (by omega)
  have q4 : (p * 7 + 3) % len < len := Int.emod_lt_of_pos _ (by omega)
  have q5 : 0 ≤ p / len := Int.ediv_nonneg (by omega) (by omega)
  have q6 : p / len ≤ p := Int.ediv_le_self _ (by omega)
  go_enter Try.func25, Try.ntmps25
  go_wp2
  go_quiet (fail)
  go_wp2
  go_ret
  refine ⟨⟨_, rfl, Int.tmod_nonneg _ (xor_i64_nonneg _ _ (by omega) (by omega) (by omega) (by omega)), Int.tmod_lt_of_pos _ (by omega)⟩, _, rfl⟩

/-- the reader lies in block b, reads that code, and stands at p; below B nothing has turned since w0 -/
def Rd (w0 : World) (B b : Nat) (a : Option Addr) (len cap : Nat) (p : Int) (W : World) : Prop :=
  Below B w0 W ∧ B ≤ b ∧ B ≤ W.heap.size ∧ Code w0 B a len ∧ len ≤ 2000 ∧ 0 ≤ p ∧ W.cell? ⟨b, 0, none⟩ = some (.slice a len cap) ∧ W.cell? ⟨b, 1, none⟩ = some (.int .i64 p) ∧ W.frozen? ⟨b, 1, none⟩ = false
theorem Rd.lt {w0 : World} {B b : Nat} {a : Option Addr} {len cap : Nat} {p : Int} {W : World} (h : Rd w0 B b a len cap p W) : b < W.heap.size := World.block_lt_of_cell? W _ h.2.2.2.2.2.2.1
theorem Rd.below {w0 : World} {B b : Nat} {a : Option Addr} {len cap : Nat} {p : Int} {W W' : World} (h : Rd w0 B b a len cap p W) (hb : Below W.heap.size W W') : Rd w0 B b a len cap p W' := by
  have hl := h.lt
  obtain ⟨h1, h2, h3, h4, h5, h6, h7, h8, h9⟩ := h
  have := hb.size
  exact ⟨h1.trans (hb.mono h3), h2, by omega, h4, h5, h6, (hb.cell (p := ⟨b, 0, none⟩) hl).trans h7, (hb.cell (p := ⟨b, 1, none⟩) hl).trans h8, (hb.frozen (p := ⟨b, 1, none⟩) hl).trans h9⟩
/-- what a pick does to the world: one cell of the reader's block, and draws -/
def Stepped (b : Nat) (p : Int) (W w' : World) : Prop := ∃ j, w' = (W.setCell ⟨b, 1, none⟩ (.int .i64 (p + 1))).drewN j
theorem Rd.step {w0 : World} {B b : Nat} {a : Option Addr} {len cap : Nat} {p : Int} {W W' : World} (h : Rd w0 B b a len cap p W) (hs : Stepped b p W W') : Rd w0 B b a len cap (p + 1) W' := by
  obtain ⟨j, rfl⟩ := hs
  obtain ⟨h1, h2, h3, h4, h5, h6, h7, h8, h9⟩ := h
  have e : (W.setCell ⟨b, 1, none⟩ (.int .i64 (p + 1))).cell? ⟨b, 0, none⟩ = some (.slice a len cap) := (World.cell?_setCell_other _ _ _ _ (by simp)).trans h7
  refine ⟨below_drewN (h1.setCell (p := ⟨b, 1, none⟩) h2 _) _, h2, ?_, h4, h5, by omega, e, ?_, ?_⟩
  · simp [World.setCell]; exact h3
  · exact World.cell?_setCell_same W ⟨b, 1, none⟩ _ h8
  · simpa using h9
/-- every other block is as it was -/
theorem Stepped.other {b : Nat} {p : Int} {W W' : World} (hs : Stepped b p W W') : (∀ c o, ¬ c = b → W'.cell? ⟨c, o, none⟩ = W.cell? ⟨c, o, none⟩) ∧ (∀ c o, ¬ c = b → W'.frozen? ⟨c, o, none⟩ = W.frozen? ⟨c, o, none⟩) ∧ W'.heap.size = W.heap.size := by
  obtain ⟨j, rfl⟩ := hs
  refine ⟨fun c o h => ?_, fun c o _ => by simp, by simp [World.setCell]⟩
  exact World.cell?_setCell_other _ _ _ _ (fun e => h (by simpa using congrArg Addr.block e.symm))

theorem pick_any {w0 : World} {B b : Nat} {a : Option Addr} {len cap : Nat} {p : Int} {W : World} (n : Int) (h : Rd w0 B b a len cap p W) (p1 : p ≤ 100000) (n1 : 1 ≤ n) (n2 : n ≤ 100000) :
    Calls Try.prog 25 #[.pointer (some ⟨b, 0, none⟩), .int .i64 n] W fun e w' => (∃ v, e = .returned (.int .i64 v) ∧ 0 ≤ v ∧ v < n) ∧ Stepped b p W w' := by
  obtain ⟨h1, h2, h3, h4, h5, h6, h7, h8, h9⟩ := h
  by_cases hl : len = 0
  · subst hl
    refine (pick_none W b a cap p n h7 h8 h9 h6 p1 n1).mono ?_
    rintro e w' ⟨rfl, rfl⟩
    exact ⟨⟨0, rfl, by omega, by omega⟩, 0, rfl⟩
  · rcases h4 with h | ⟨k, off, rfl, hk, hc⟩
    · exact absurd h hl
    · have cellAt : ∀ i, i < len → ∃ c : Int, 0 ≤ c ∧ c ≤ 255 ∧ W.cell? ⟨k, off + i, none⟩ = some (.int .u8 c) := by
        intro i hi
        obtain ⟨c, c0, c1, c2⟩ := hc i hi
        exact ⟨c, c0, c1, (h1.cell (p := ⟨k, off + i, none⟩) hk).trans c2⟩
      by_cases hp : p < len
      · obtain ⟨c, c0, c1, c2⟩ := cellAt p.toNat (by omega)
        refine (pick_near W b k off len cap p n c h7 h8 h9 h6 p1 n1 n2 (by omega) (by omega) h5 hp c2 c0 c1).mono ?_
        rintro e w' ⟨rfl, rfl⟩
        exact ⟨⟨_, rfl, Int.emod_nonneg _ (by omega), Int.emod_lt_of_pos _ (by omega)⟩, 0, rfl⟩
      · have q1 : 0 ≤ p % len := Int.emod_nonneg _ (by omega)
        have q2 : p % len < len := Int.emod_lt_of_pos _ (by omega)
        have q3 : 0 ≤ (p * 7 + 3) % len := Int.emod_nonneg _ (by omega)
        have q4 : (p * 7 + 3) % len < len := Int.emod_lt_of_pos _ (by omega)
        obtain ⟨c, c0, c1, c2⟩ := cellAt (p % len).toNat (by omega)
        obtain ⟨d, d0, d1, d2⟩ := cellAt ((p * 7 + 3) % len).toNat (by omega)
        exact pick_far W b k off len cap p n c d h7 h8 h9 h6 p1 n1 n2 (by omega) (by omega) h5 (by omega) c2 c0 c1 d2 d0 d1

set_option maxHeartbeats 1000000 in
/-- one of a list of numbers that lies in a block of its own -/
theorem one_any {w0 : World} {B b : Nat} {a : Option Addr} {len cap : Nat} {p : Int} {W : World} (h : Rd w0 B b a len cap p W) (p1 : p ≤ 100000) (l n : Nat) (zs : List Int) (hl : ¬ l = b) (hn : zs.length = n) (n1 : 1 ≤ n) (n2 : n ≤ 100)
    (hc : ∀ i, i < n → W.cell? ⟨l, i, none⟩ = some (.int .i64 (zs.getD i 0))) :
    Calls Try.prog 40 #[.pointer (some ⟨b, 0, none⟩), .slice (some ⟨l, 0, none⟩) n n] W fun e w' => (∃ v, e = .returned (.int .i64 v) ∧ v ∈ zs) ∧ Stepped b p W w' := by
  go_enter Try.func40, Try.ntmps40
  go_wp2_with fail
  refine (pick_any _ h p1 (by omega) (by omega)).mono ?_
  rintro e w1 ⟨⟨v, rfl, v0, v1⟩, hs⟩
  obtain ⟨i, rfl⟩ := Int.eq_ofNat_of_zero_le v0
  have hi : i < n := by omega
  have hci : w1.cell? ⟨l, i, none⟩ = some (.int .i64 (zs.getD i 0)) := (hs.other.1 l i hl).trans (hc i hi)
  have hmem : zs.getD i 0 ∈ zs := by rw [List.getD_eq_getElem?_getD, List.getElem?_eq_getElem (by omega)]; exact List.getElem_mem _
  generalize zs.getD i 0 = z at *
  clear hc h
  go_wp2_with fail
  go_ret
  exact ⟨⟨z, rfl, hmem⟩, hs⟩

/-- a slice of bytes that came in, as the drawing functions want it -/
def CodeIn (W : World) (a : Option Addr) (len cap : Nat) : Prop := Code W W.heap.size a len ∧ len ≤ cap ∧ cap ≤ maxLen ∧ (a = none → cap = 0)
theorem codeIn_of {w : World} {a : Option Addr} {len cap : Nat} {zs : List Int} (h : IsRow .u8 w a len cap zs) : CodeIn w a len cap := by
  rcases h with ⟨rfl, rfl, rfl, rfl⟩ | ⟨x, rfl, hl, hm, hz, hc, hw⟩
  · exact ⟨.inl rfl, Nat.le_refl _, by unfold maxLen; omega, fun _ => rfl⟩
  · refine ⟨?_, hl, hm, fun h => by cases h⟩
    by_cases h0 : len = 0
    · exact .inl h0
    · obtain ⟨k, off, spot⟩ := x
      have c0 := hc 0 (by omega)
      have hspot : spot = none := by simpa [Addr.add] using World.cell?_spot c0
      subst hspot
      refine .inr ⟨k, off, rfl, World.block_lt_of_cell? w _ c0, fun i hi => ?_⟩
      have ci := hc i (by omega)
      have hmem : zs.getD i 0 ∈ zs := by rw [List.getD_eq_getElem?_getD, List.getElem?_eq_getElem (by omega)]; exact List.getElem_mem _
      have hb := bounds_u8 (hw _ hmem)
      have e : Addr.add ⟨k, off, none⟩ i = ⟨k, off + i, none⟩ := by
        by_cases hi0 : i = 0
        · subst hi0; simp [Addr.add]
        · simp [Addr.add, hi0]
      rw [e] at ci
      exact ⟨zs.getD i 0, hb.1, hb.2, ci⟩
theorem CodeIn.below {W W' : World} {a : Option Addr} {len cap : Nat} (h : CodeIn W a len cap) (hb : Below W.heap.size W W') : CodeIn W' a len cap := by
  obtain ⟨h1, h2, h3, h4⟩ := h
  refine ⟨?_, h2, h3, h4⟩
  rcases h1.below hb with h | ⟨k, off, e1, e2, e3⟩
  · exact .inl h
  · exact .inr ⟨k, off, e1, by have := hb.size; omega, e3⟩

set_option maxHeartbeats 1000000 in
theorem l1Open_any (W : World) (a : Option Addr) (len cap : Nat) (h : CodeIn W a len cap) :
    Calls Try.prog 24 #[.slice a len cap] W fun e w' => ∃ len', e = .returned (.pointer (some ⟨W.heap.size, 0, none⟩)) ∧ Rd W W.heap.size W.heap.size a len' cap 0 w' := by
  obtain ⟨h1, h2, h3, h4⟩ := h
  unfold maxLen at h3
  by_cases hl : 2000 < len
  · cases a with
    | none => have := h4 rfl; omega
    | some x =>
      have hC := h1.less (len' := 2000) (by omega)
      have q1 : (2000 : Int) ≤ cap := by omega
      have q2 : 2000 ≤ cap := by omega
      clear h1 h4
      go_enter Try.func24, Try.ntmps24
      go_wp2
      go_ret
      refine ⟨2000, rfl, (Below.refl _ _).alloc (Nat.le_refl _) _, Nat.le_refl _, by simp, hC, by omega, by omega, ?_, ?_, ?_⟩
      all_goals simp
  · have hC := h1
    clear h1 h4
    go_enter Try.func24, Try.ntmps24
    go_wp2
    go_ret
    refine ⟨len, rfl, (Below.refl _ _).alloc (Nat.le_refl _) _, Nat.le_refl _, by simp, hC, by omega, by omega, ?_, ?_, ?_⟩
    all_goals simp
end Go.Proofs.Ytkdilgmlabaehaa
