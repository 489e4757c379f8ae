/- Contracts: l14Dec, l14AnyDec, the draws of two numbers. -/
import Derived.Test.YtldlfmehplemiaaDraw
import Derived.Test.YtldlfmehplemiaaDecC
import Derived.Test.YtldlfmehplemiaaDm3
namespace Go.Proofs.Ytldlfmehplemiaa
open Go.RowKit
attribute [local go_sem] cell_alloc_is frozen_alloc_is

theorem stepped_size {b : Nat} {p : Int} {W W' : World} (hs : Stepped b p W W') : W'.heap.size = W.heap.size := hs.other.2.2
/-- two cells of another block are as they were -/
theorem Two.stepped {b c : Nat} {p m x : Int} {W W' : World} (h : Two W c m x) (hs : Stepped b p W W') (hc : ¬ c = b) : Two W' c m x :=
  ⟨(hs.other.1 c 0 hc).trans h.1, (hs.other.1 c 1 hc).trans h.2.1, (hs.other.2.1 c 0 hc).trans h.2.2.1, (hs.other.2.1 c 1 hc).trans h.2.2.2⟩

theorem hideIt3 {p : Prop} (h : p) : Hid p := h
/-- every block that was there, but b, is as it was -/
def Oth (b : Nat) (W w' : World) : Prop := W.heap.size ≤ w'.heap.size ∧ ∀ c o, c < W.heap.size → ¬ c = b → w'.cell? ⟨c, o, none⟩ = W.cell? ⟨c, o, none⟩ ∧ w'.frozen? ⟨c, o, none⟩ = W.frozen? ⟨c, o, none⟩
theorem Oth.refl (b : Nat) (W : World) : Oth b W W := ⟨Nat.le_refl _, fun _ _ _ _ => ⟨rfl, rfl⟩⟩
theorem Oth.below {b : Nat} {W w' w'' : World} (h : Oth b W w') (k : Below w'.heap.size w' w'') : Oth b W w'' :=
  ⟨Nat.le_trans h.1 k.size, fun c o hc hb => ⟨(k.cell (p := ⟨c, o, none⟩) (Nat.lt_of_lt_of_le hc h.1)).trans (h.2 c o hc hb).1, (k.frozen (p := ⟨c, o, none⟩) (Nat.lt_of_lt_of_le hc h.1)).trans (h.2 c o hc hb).2⟩⟩
theorem Oth.alloc {b : Nat} {W w' : World} (h : Oth b W w') (o : Obj) : Oth b W (w'.alloc o) := h.below ((Below.refl _ _).alloc (Nat.le_refl _) o)
theorem Oth.stepped {b : Nat} {p : Int} {W w' w'' : World} (h : Oth b W w') (k : Stepped b p w' w'') : Oth b W w'' := by
  obtain ⟨k1, k2, k3⟩ := k.other
  exact ⟨by rw [k3]; exact h.1, fun c o hc hb => ⟨(k1 c o hb).trans (h.2 c o hc hb).1, (k2 c o hb).trans (h.2 c o hc hb).2⟩⟩
theorem Oth.trans {b : Nat} {W w' w'' : World} (h : Oth b W w') (k : Oth b w' w'') : Oth b W w'' :=
  ⟨Nat.le_trans h.1 k.1, fun c o hc hb => ⟨(k.2 c o (Nat.lt_of_lt_of_le hc h.1) hb).1.trans (h.2 c o hc hb).1, (k.2 c o (Nat.lt_of_lt_of_le hc h.1) hb).2.trans (h.2 c o hc hb).2⟩⟩
theorem Oth.set {b j o : Nat} {W w' : World} (h : Oth b W w') (hj : W.heap.size ≤ j) (u : Value) : Oth b W (w'.setCell ⟨j, o, none⟩ u) := by
  have q : Below W.heap.size w' (w'.setCell ⟨j, o, none⟩ u) := (Below.refl _ w').setCell (p := ⟨j, o, none⟩) hj u
  exact ⟨Nat.le_trans h.1 q.size, fun c o' hc hb => ⟨(q.cell (p := ⟨c, o', none⟩) hc).trans (h.2 c o' hc hb).1, (q.frozen (p := ⟨c, o', none⟩) hc).trans (h.2 c o' hc hb).2⟩⟩
theorem Rd.set {w0 : World} {B b j o : Nat} {a : Option Addr} {len cap : Nat} {p : Int} {W : World} (h : Rd w0 B b a len cap p W) (hj : B ≤ j) (hb : ¬ b = j) (u : Value) : Rd w0 B b a len cap p (W.setCell ⟨j, o, none⟩ u) := by
  obtain ⟨h1, h2, h3, h4, h5, h6, h7, h8, h9⟩ := h
  have far : ∀ o', (W.setCell ⟨j, o, none⟩ u).cell? ⟨b, o', none⟩ = W.cell? ⟨b, o', none⟩ := fun o' => World.cell?_setCell_other _ _ _ _ (fun e => hb (by simpa using congrArg Addr.block e.symm))
  exact ⟨h1.setCell (p := ⟨j, o, none⟩) hj u, h2, by simpa [World.setCell] using h3, h4, h5, h6, (far 0).trans h7, (far 1).trans h8, by simpa using h9⟩
theorem Two.oth {b c : Nat} {m x : Int} {W w' : World} (h : Two W c m x) (k : Oth b W w') (hb : ¬ c = b) : Two w' c m x := by
  have hc := World.block_lt_of_cell? W _ h.1
  exact ⟨(k.2 c 0 hc hb).1.trans h.1, (k.2 c 1 hc hb).1.trans h.2.1, (k.2 c 0 hc hb).2.trans h.2.2.1, (k.2 c 1 hc hb).2.trans h.2.2.2⟩
theorem cells_list (W : World) (zs : List Int) (T : TypeId) : ∀ i, i < zs.length → (W.alloc (.cells (zs.map (Value.int .i64)).toArray T)).cell? ⟨W.heap.size, i, none⟩ = some (.int .i64 (zs.getD i 0)) := by
  intro i hi
  rw [World.cell?_alloc_new]
  simp [List.getElem?_eq_getElem hi]

set_option maxHeartbeats 1000000 in
theorem l14Dec_any {w0 : World} {B b : Nat} {a : Option Addr} {len cap : Nat} {p : Int} {W : World} (h : Rd w0 B b a len cap p W) (p1 : p ≤ 90000) :
    Calls Try.prog 37 #[.pointer (some ⟨b, 0, none⟩)] W fun e w' => ∃ m x p', e = .returned (.agg #[.int .i64 m, .int .i64 x]) ∧ -99999999 ≤ m ∧ m ≤ 99999999 ∧ -8 ≤ x ∧ x ≤ 8 ∧ p' ≤ p + 10 ∧ Rd w0 B b a len cap p' w' ∧ Oth b W w' := by
  have hlt := h.lt
  have R0 : Rd w0 B b a len cap p (W.alloc (.cells #[.int .i64 0, .int .i64 0] 25)) := h.below ((Below.refl _ _).alloc (Nat.le_refl _) _)
  have T0 := Two.new W 0 0 25
  have O0 := (Oth.refl b W).alloc (.cells #[.int .i64 0, .int .i64 0] 25)
  have hne : ¬ W.heap.size = b := by omega
  go_enter Try.func37, Try.ntmps37
  go_wp2_with fail
  refine (pick_any _ R0 (by omega) (by omega) (by omega)).mono ?_
  rintro e w1 ⟨⟨v1, rfl, v10, v11⟩, s1⟩
  have R1 := R0.step s1
  have T1 := T0.stepped s1 hne
  have O1 := O0.stepped s1
  clear R0 T0 O0 s1
  go_wp2_with fail
  refine (pick_any _ R1 (by omega) (by omega) (by omega)).mono ?_
  rintro e w2 ⟨⟨v2, rfl, v20, v21⟩, s2⟩
  have R2 := R1.step s2
  have T2 := T1.stepped s2 hne
  have O2 := O1.stepped s2
  clear R1 T1 O1 s2
  go_wp2_with fail
  refine (pick_any _ R2 (by omega) (by omega) (by omega)).mono ?_
  rintro e w3 ⟨⟨v3, rfl, v30, v31⟩, s3⟩
  have R3 := R2.step s3
  have T3 := T2.stepped s3 hne
  have O3 := O2.stepped s3
  clear R2 T2 O2 s3
  go_wp2_with fail
  refine (pick_any _ R3 (by omega) (by omega) (by omega)).mono ?_
  rintro e w4 ⟨⟨v4, rfl, v40, v41⟩, s4⟩
  have R4 := R3.step s4
  have T4 := T3.stepped s4 hne
  have O4 := O3.stepped s4
  clear R3 T3 O3 s4
  have hl4 := R4.lt
  go_wp2_with fail
  refine (one_any (R4.below ((Below.refl _ _).alloc (Nat.le_refl _) (.cells #[.int .i64 v1, .int .i64 (v2 * 256 + v3), .int .i64 99999999, .int .i64 0, .int .i64 (-v4), .int .i64 25, .int .i64 (-99999999)] 3))) (by omega) w4.heap.size 7 [v1, v2 * 256 + v3, 99999999, 0, -v4, 25, -99999999] (by omega) rfl (by omega) (by omega) (cells_list w4 [v1, v2 * 256 + v3, 99999999, 0, -v4, 25, -99999999] 3)).mono ?_
  rintro e w5 ⟨⟨m, rfl, hm⟩, s5⟩
  have R5 := (R4.below ((Below.refl _ _).alloc (Nat.le_refl _) (.cells #[.int .i64 v1, .int .i64 (v2 * 256 + v3), .int .i64 99999999, .int .i64 0, .int .i64 (-v4), .int .i64 25, .int .i64 (-99999999)] 3))).step s5
  have T5 := (T4.alloc (by have := O4.1; have := World.block_lt_of_cell? w4 _ T4.1; omega) (.cells #[.int .i64 v1, .int .i64 (v2 * 256 + v3), .int .i64 99999999, .int .i64 0, .int .i64 (-v4), .int .i64 25, .int .i64 (-99999999)] 3)).stepped s5 hne
  have O5 := (O4.alloc (.cells #[.int .i64 v1, .int .i64 (v2 * 256 + v3), .int .i64 99999999, .int .i64 0, .int .i64 (-v4), .int .i64 25, .int .i64 (-99999999)] 3)).stepped s5
  have hmb : -99999999 ≤ m ∧ m ≤ 99999999 := by simp at hm; omega
  obtain ⟨mb1, mb2⟩ := hmb
  clear R4 T4 O4 s5 hm v10 v11 v20 v21 v30 v31 v40 v41 hl4
  have hl5 := R5.lt
  go_wp2_with fail
  refine (one_any (R5.below ((Below.refl _ _).alloc (Nat.le_refl _) (.cells #[.int .i64 0, .int .i64 0, .int .i64 (-1), .int .i64 (-2), .int .i64 2, .int .i64 (-8), .int .i64 8] 3))) (by omega) w5.heap.size 7 [0, 0, -1, -2, 2, -8, 8] (by omega) rfl (by omega) (by omega) (cells_list w5 [0, 0, -1, -2, 2, -8, 8] 3)).mono ?_
  rintro e w6 ⟨⟨x, rfl, hx⟩, s6⟩
  have R6 := (R5.below ((Below.refl _ _).alloc (Nat.le_refl _) (.cells #[.int .i64 0, .int .i64 0, .int .i64 (-1), .int .i64 (-2), .int .i64 2, .int .i64 (-8), .int .i64 8] 3))).step s6
  have T6 := (T5.alloc (World.block_lt_of_cell? _ _ T5.1) (.cells #[.int .i64 0, .int .i64 0, .int .i64 (-1), .int .i64 (-2), .int .i64 2, .int .i64 (-8), .int .i64 8] 3)).stepped s6 hne
  have O6 := (O5.alloc (.cells #[.int .i64 0, .int .i64 0, .int .i64 (-1), .int .i64 (-2), .int .i64 2, .int .i64 (-8), .int .i64 8] 3)).stepped s6
  have hxb : -8 ≤ x ∧ x ≤ 8 := by simp at hx; omega
  obtain ⟨xb1, xb2⟩ := hxb
  clear R5 T5 O5 s6 hx hl5
  go_wp2_with fail
  refine (l1New_any _ _ _ (by omega) (by omega) (by omega) (by omega)).mono ?_
  rintro e w7 ⟨rfl, hb7⟩
  have R7 := R6.below hb7
  have T7 := T6.below hb7 (World.block_lt_of_cell? _ _ T6.1)
  have O7 := O6.below hb7
  have HNO := hideIt3 (@Dm.norm_ok m x)
  have HNB := hideIt3 (Dm.norm_i64 m x)
  clear R6 T6 O6 hb7
  generalize Dm.norm m x = r at *
  obtain ⟨rm, rx, rb⟩ := r
  obtain ⟨c0, c1, f0, f1⟩ := id T7
  have hl7 : W.heap.size < w7.heap.size := World.block_lt_of_cell? _ _ T7.1
  have hB := R7.2.1
  cases rb
  · clear T7
    go_wp2_with fail
    refine bodyPost_ret (v := .agg #[.int .i64 1, .int .i64 0]) (by simp (maxDischargeDepth := 6) [results, Try.results37, go_sem, c0, c1]) rfl ⟨1, 0, p + 1 + 1 + 1 + 1 + 1 + 1, rfl, by omega, by omega, by omega, by omega, ?_, ?_, ?_⟩
    · omega
    · exact (Rd.set (Rd.set R7 (by omega) (by omega) _) (by omega) (by omega) _).below ((Below.refl _ _).alloc (Nat.le_refl _) _)
    · exact (Oth.set (Oth.set O7 (by omega) _) (by omega) _).alloc _
  · have hok := HNO.out rfl
    simp only at hok
    obtain ⟨k1, k2, k3, k4⟩ := Dm.ok_bd hok
    clear T7 HNO HNB hok
    go_wp2_with fail
    refine bodyPost_ret (v := .agg #[.int .i64 rm, .int .i64 rx]) (by simp (maxDischargeDepth := 6) [results, Try.results37, go_sem, c0, c1]) rfl ⟨rm, rx, p + 1 + 1 + 1 + 1 + 1 + 1, rfl, by omega, by omega, by omega, by omega, ?_, ?_, ?_⟩
    · omega
    · exact (Rd.set (Rd.set R7 (by omega) (by omega) _) (by omega) (by omega) _).below ((Below.refl _ _).alloc (Nat.le_refl _) _)
    · exact (Oth.set (Oth.set O7 (by omega) _) (by omega) _).alloc _

set_option maxHeartbeats 1000000 in
theorem l14AnyDec_any {w0 : World} {B b : Nat} {a : Option Addr} {len cap : Nat} {p : Int} {W : World} (h : Rd w0 B b a len cap p W) (p1 : p ≤ 80000) :
    Calls Try.prog 35 #[.pointer (some ⟨b, 0, none⟩)] W fun e w' => ∃ m x p', e = .returned (.agg #[.int .i64 m, .int .i64 x]) ∧ -100000000 ≤ m ∧ m ≤ 100000000 ∧ -9 ≤ x ∧ x ≤ 9 ∧ p' ≤ p + 20 ∧ Rd w0 B b a len cap p' w' ∧ Oth b W w' := by
  have hlt := h.lt
  have R0 : Rd w0 B b a len cap p (W.alloc (.cells #[.int .i64 0, .int .i64 0] 25)) := h.below ((Below.refl _ _).alloc (Nat.le_refl _) _)
  have T0 := Two.new W 0 0 25
  have O0 := (Oth.refl b W).alloc (.cells #[.int .i64 0, .int .i64 0] 25)
  have hne : ¬ W.heap.size = b := by omega
  go_enter Try.func35, Try.ntmps35
  go_wp2_with fail
  refine (l14Dec_any R0 (by omega)).mono ?_
  rintro e w1 ⟨m, x, q, rfl, mb1, mb2, xb1, xb2, hq, R1, k1⟩
  have T1 := T0.oth k1 hne
  have O1 := O0.trans k1
  have hsz : W.heap.size < w1.heap.size := World.block_lt_of_cell? _ _ T1.1
  have hlt1 := R1.lt
  have hne2 : ¬ w1.heap.size = b := by omega
  have hq0 := R1.2.2.2.2.2.1
  clear R0 T0 O0 k1
  have R2 := R1.below ((Below.refl _ _).alloc (Nat.le_refl _) (.cells #[.int .i64 m, .int .i64 x] 25))
  have O2 := O1.alloc (.cells #[.int .i64 m, .int .i64 x] 25)
  have T2 := T1.alloc (World.block_lt_of_cell? _ _ T1.1) (.cells #[.int .i64 m, .int .i64 x] 25)
  have D2 := Two.new w1 m x 25
  clear R1 O1 T1
  go_wp2_with fail
  refine (pick_any _ R2 (by omega) (by omega) (by omega)).mono ?_
  rintro e w3 ⟨⟨v, rfl, v0, v1⟩, s3⟩
  have R3 := R2.step s3
  have T3 := T2.stepped s3 hne
  have D3 := D2.stepped s3 hne2
  have O3 := O2.stepped s3
  clear R2 T2 D2 O2 s3
  have hl3 := R3.lt
  have hB := R3.2.1
  by_cases h0 : v = 0
  · have hz : (v == 0) = true := by simp [h0]
    clear h0
    go_wp2_with fail
    refine (one_any (R3.below ((Below.refl _ _).alloc (Nat.le_refl _) (.cells #[.int .i64 10, .int .i64 100000000, .int .i64 (-100000000)] 3))) (by omega) w3.heap.size 3 [10, 100000000, -100000000] (by omega) rfl (by omega) (by omega) (cells_list w3 [10, 100000000, -100000000] 3)).mono ?_
    rintro e w4 ⟨⟨z, rfl, hzz⟩, s4⟩
    have R4 := (R3.below ((Below.refl _ _).alloc (Nat.le_refl _) (.cells #[.int .i64 10, .int .i64 100000000, .int .i64 (-100000000)] 3))).step s4
    have O4 := (O3.alloc (.cells #[.int .i64 10, .int .i64 100000000, .int .i64 (-100000000)] 3)).stepped s4
    have T4 := (T3.alloc (World.block_lt_of_cell? _ _ T3.1) (.cells #[.int .i64 10, .int .i64 100000000, .int .i64 (-100000000)] 3)).stepped s4 hne
    have D4 := (D3.alloc (World.block_lt_of_cell? _ _ D3.1) (.cells #[.int .i64 10, .int .i64 100000000, .int .i64 (-100000000)] 3)).stepped s4 hne2
    have zb : -100000000 ≤ z ∧ z ≤ 100000000 := by simp at hzz; omega
    obtain ⟨zb1, zb2⟩ := zb
    clear R3 O3 T3 D3 s4 hzz
    obtain ⟨c0, c1, f0, f1⟩ := id T4
    obtain ⟨d0, d1, g0, g1⟩ := id D4
    have hne3 : ¬ w1.heap.size = W.heap.size := by omega
    have hne4 : ¬ W.heap.size = w1.heap.size := by omega
    go_wp2_with fail
    refine bodyPost_ret (v := .agg #[.int .i64 z, .int .i64 x]) (by simp (maxDischargeDepth := 8) [results, Try.results35, go_sem, *]) rfl ⟨z, x, q + 1 + 1, rfl, by omega, by omega, by omega, by omega, by omega, ?_, ?_⟩
    · exact Rd.set (Rd.set (Rd.set R4 (by omega) (by omega) _) (by omega) (by omega) _) (by omega) (by omega) _
    · exact Oth.set (Oth.set (Oth.set O4 (by omega) _) (by omega) _) (by omega) _
  · have hz : (v == 0) = false := by simp [h0]
    by_cases h1 : v = 1
    · have hz1 : (v == 1) = true := by simp [h1]
      clear h0 h1
      go_wp2_with fail
      refine (one_any (R3.below ((Below.refl _ _).alloc (Nat.le_refl _) (.cells #[.int .i64 9, .int .i64 (-9)] 3))) (by omega) w3.heap.size 2 [9, -9] (by omega) rfl (by omega) (by omega) (cells_list w3 [9, -9] 3)).mono ?_
      rintro e w4 ⟨⟨z, rfl, hzz⟩, s4⟩
      have R4 := (R3.below ((Below.refl _ _).alloc (Nat.le_refl _) (.cells #[.int .i64 9, .int .i64 (-9)] 3))).step s4
      have O4 := (O3.alloc (.cells #[.int .i64 9, .int .i64 (-9)] 3)).stepped s4
      have T4 := (T3.alloc (World.block_lt_of_cell? _ _ T3.1) (.cells #[.int .i64 9, .int .i64 (-9)] 3)).stepped s4 hne
      have D4 := (D3.alloc (World.block_lt_of_cell? _ _ D3.1) (.cells #[.int .i64 9, .int .i64 (-9)] 3)).stepped s4 hne2
      have zb : -100000000 ≤ z ∧ z ≤ 100000000 ∧ -9 ≤ z ∧ z ≤ 9 := by simp at hzz; omega
      obtain ⟨zb1, zb2, zb3, zb4⟩ := zb
      clear R3 O3 T3 D3 s4 hzz
      obtain ⟨c0, c1, f0, f1⟩ := id T4
      obtain ⟨d0, d1, g0, g1⟩ := id D4
      have hne3 : ¬ w1.heap.size = W.heap.size := by omega
      have hne4 : ¬ W.heap.size = w1.heap.size := by omega
      go_wp2_with fail
      refine bodyPost_ret (v := .agg #[.int .i64 m, .int .i64 z]) (by simp (maxDischargeDepth := 8) [results, Try.results35, go_sem, *]) rfl ⟨m, z, q + 1 + 1, rfl, by omega, by omega, by omega, by omega, by omega, ?_, ?_⟩
      · exact Rd.set (Rd.set (Rd.set R4 (by omega) (by omega) _) (by omega) (by omega) _) (by omega) (by omega) _
      · exact Oth.set (Oth.set (Oth.set O4 (by omega) _) (by omega) _) (by omega) _
    · have hz1 : (v == 1) = false := by simp [h1]
      clear h0 h1
      obtain ⟨c0, c1, f0, f1⟩ := id T3
      obtain ⟨d0, d1, g0, g1⟩ := id D3
      go_wp2_with fail
      refine bodyPost_ret (v := .agg #[.int .i64 m, .int .i64 x]) (by simp (maxDischargeDepth := 8) [results, Try.results35, go_sem, *]) rfl ⟨m, x, q + 1, rfl, by omega, by omega, by omega, by omega, by omega, ?_, ?_⟩
      · exact Rd.set (Rd.set R3 (by omega) (by omega) _) (by omega) (by omega) _
      · exact Oth.set (Oth.set O3 (by omega) _) (by omega) _

/-- two decimals, as a draw hands them back -/
abbrev dec22 (m x n y : Int) : Ending := .returned (.tuple #[.agg #[.int .i64 m, .int .i64 x], .agg #[.int .i64 n, .int .i64 y]])
def Small (m x : Int) : Prop := -100000000 ≤ m ∧ m ≤ 100000000 ∧ -9 ≤ x ∧ x ≤ 9

end Go.Proofs.Ytldlfmehplemiaa
