/- Contracts: l1Neg, opposite, DecSub of both sides. -/
import Derived.Test.YthpnbjigpdgmpaaDecF
import Derived.Test.YthpnbjigpdgmpaaHeld
import Derived.OpenShut
namespace Go.Proofs.Ythpnbjigpdgmpaa
open Go.RowKit
attribute [local go_sem] cell_alloc_is frozen_alloc_is
theorem wf_bd {n : Int} (h : (Lit.int .i64 n).wf = true) : -9223372036854775808 ≤ n ∧ n ≤ 9223372036854775807 := bounds_i64 h

set_option maxHeartbeats 400000 in
theorem l1Neg_any (m x : Int) (w : World) (h1 : -9223372036854775807 ≤ m) (h2 : m ≤ 9223372036854775807) :
    Calls Try.prog 48 #[.agg #[.int .i64 m, .int .i64 x]] w fun e w' => e = .returned (.agg #[.int .i64 (-m), .int .i64 x]) ∧ Below w.heap.size w w' := by
  go_enter Try.func48, Try.ntmps48
  go_wp2
  exact bodyPost_ret (v := .agg #[.int .i64 (-m), .int .i64 x]) (by simp [results, Try.results48, go_sem]) rfl ⟨rfl, (by (repeat' (first | assumption | exact Below.refl _ _ | refine Below.alloc ?_ ?_ _ | refine Below.setCell ?_ ?_ _ | refine Below.drew ?_ | refine below_drewN ?_ _)) <;> (first | omega | (simp <;> omega)))⟩

set_option maxHeartbeats 400000 in
theorem opposite_any (m x : Int) (w : World) (h1 : -9223372036854775807 ≤ m) (h2 : m ≤ 9223372036854775807) :
    Calls Try.prog 47 #[.agg #[.int .i64 m, .int .i64 x]] w fun e w' => e = .returned (.agg #[.int .i64 (-m), .int .i64 x]) ∧ Below w.heap.size w w' := by
  go_enter Try.func47, Try.ntmps47
  go_wp2
  exact bodyPost_ret (v := .agg #[.int .i64 (-m), .int .i64 x]) (by simp [results, Try.results47, go_sem]) rfl ⟨rfl, (by (repeat' (first | assumption | exact Below.refl _ _ | refine Below.alloc ?_ ?_ _ | refine Below.setCell ?_ ?_ _ | refine Below.drew ?_ | refine below_drewN ?_ _)) <;> (first | omega | (simp <;> omega)))⟩

set_option maxHeartbeats 400000 in
theorem opposite_min (x : Int) (w : World) :
    Calls Try.prog 47 #[.agg #[.int .i64 (-9223372036854775808), .int .i64 x]] w fun e w' => e = .returned (.agg #[.int .i64 (-9223372036854775808), .int .i64 x]) ∧ Below w.heap.size w w' := by
  go_enter Try.func47, Try.ntmps47
  go_wp2
  exact bodyPost_ret (v := .agg #[.int .i64 (-9223372036854775808), .int .i64 x]) (by simp [results, Try.results47, go_sem]; unfold wrap64; decide) rfl ⟨rfl, (by (repeat' (first | assumption | exact Below.refl _ _ | refine Below.alloc ?_ ?_ _ | refine Below.setCell ?_ ?_ _ | refine Below.drew ?_ | refine below_drewN ?_ _)) <;> (first | omega | (simp <;> omega)))⟩

set_option maxHeartbeats 400000 in
theorem sDecSub_any (m x n y : Int) (w : World) :
    Calls Try.prog 22 #[.agg #[.int .i64 m, .int .i64 x], .agg #[.int .i64 n, .int .i64 y]] w fun e w' => e = dec3 (Dm.sub m x n y) ∧ Below w.heap.size w w' := by
  go_enter Try.func22, Try.ntmps22
  go_wp2_with fail
  refine (sDecOk_any _ _ _).mono ?_
  rintro e w1 ⟨rfl, hb1⟩
  have T1 := (Three.new w m x n y 0 0 _ _ _).below hb1
  have hB1 := (below3 w _ _ _).trans (hb1.mono (by simp; omega))
  clear hb1
  obtain ⟨⟨a0, a1, a2, a3⟩, ⟨b0, b1, b2, b3⟩, ⟨r0, r1, r2, r3⟩, hz⟩ := id T1
  cases ho : Dm.ok m x
  · have HF : Hid (Dm.sub m x n y = (0, 0, false)) := by unfold Hid; simp [Dm.sub, ho]
    go_wp2_with fail
    exact bodyPost_ret (v := .tuple #[.agg #[.int .i64 0, .int .i64 0], .bool false]) (by simp [results, Try.results22, go_sem, r0, r1]) rfl ⟨by rw [HF.out], (by (repeat' (first | assumption | exact Below.refl _ _ | refine Below.alloc ?_ ?_ _ | refine Below.setCell ?_ ?_ _ | refine Below.drew ?_ | refine below_drewN ?_ _)) <;> (first | omega | (simp <;> omega)))⟩
  · go_wp2_with fail
    refine (sDecOk_any _ _ _).mono ?_
    rintro e w2 ⟨rfl, hb2⟩
    have T2 := T1.below hb2
    have hB2 := hB1.trans (hb2.mono (by omega))
    clear hb2 hB1 T1 a0 a1 a2 a3 b0 b1 b2 b3 r0 r1 r2 r3
    obtain ⟨⟨a0, a1, a2, a3⟩, ⟨b0, b1, b2, b3⟩, ⟨r0, r1, r2, r3⟩, hz2⟩ := id T2
    cases hp : Dm.ok n y
    · have HF : Hid (Dm.sub m x n y = (0, 0, false)) := by unfold Hid; simp [Dm.sub, hp]
      go_wp2_with fail
      exact bodyPost_ret (v := .tuple #[.agg #[.int .i64 0, .int .i64 0], .bool false]) (by simp [results, Try.results22, go_sem, r0, r1]) rfl ⟨by rw [HF.out], (by (repeat' (first | assumption | exact Below.refl _ _ | refine Below.alloc ?_ ?_ _ | refine Below.setCell ?_ ?_ _ | refine Below.drew ?_ | refine below_drewN ?_ _)) <;> (first | omega | (simp <;> omega)))⟩
    · have HF : Hid (Dm.sub m x n y = Dm.add1 m x (-n) y) := by unfold Hid; simp [Dm.sub, ho, hp]
      have hq : Dm.ok (-n) y = true := by rw [Dm.ok_neg]; exact hp
      obtain ⟨n1, n2, y1, y2⟩ := Dm.ok_bd hp
      have hStart : HeldK (w.heap.size + 2) w2 w.heap.size (w.heap.size + 1) m x n y w2 := HeldK.start a0 a1 b0 b1 (by omega)
      have hB0 := hB2
      clear T2
      go_wp2_with fail
      go_region_held3 (fun w' => w'.cell? ⟨w.heap.size, 0, none⟩ = some (.int .i64 m) ∧ w'.cell? ⟨w.heap.size, 1, none⟩ = some (.int .i64 x) ∧ w'.cell? ⟨w.heap.size + 1, 0, none⟩ = some (.int .i64 n) ∧ w'.cell? ⟨w.heap.size + 1, 1, none⟩ = some (.int .i64 y) ∧ w.heap.size + 2 ≤ w'.heap.size ∧ Below (w.heap.size + 2) w2 w') (first | exact hStart.drew | assumption | (refine HeldK.set (by assumption) ?_ ?_ ?_ _ _ <;> omega)) (first
        | (go_at_call 48; refine (l1Neg_any _ _ _ (by omega) (by omega)).mono ?_; rintro e w1 ⟨rfl, hb1⟩; have hS : HeldK (w.heap.size + 2) w2 w.heap.size (w.heap.size + 1) m x n y w1 := HeldK.below (by assumption) hb1; have hz := hb1.size; obtain ⟨hc, hf⟩ := bsome hb1; (try simp at hz); (try (have hbb := below_step (by assumption) hb1; obtain ⟨hc', hf'⟩ := bsome hbb)))
        | (go_at_call 46; refine (l1Add_any _ _ _ _ _ ho hq).mono ?_; rintro e w1 ⟨rfl, hb1⟩; have hS : HeldK (w.heap.size + 2) w2 w.heap.size (w.heap.size + 1) m x n y w1 := HeldK.below (by assumption) hb1; have hz := hb1.size; obtain ⟨hc, hf⟩ := bsome hb1; (try simp at hz); (try (have hbb := below_step (by assumption) hb1; obtain ⟨hc', hf'⟩ := bsome hbb))))
      go_wp2_with fail
      exact bodyPost_ret (v := .tuple #[.agg #[.int .i64 (Dm.add1 m x (-n) y).1, .int .i64 (Dm.add1 m x (-n) y).2.1], .bool (Dm.add1 m x (-n) y).2.2]) (by simp [results, Try.results22, go_sem, *]) rfl ⟨by rw [HF.out], hB0.trans ((by assumption : HeldK (w.heap.size + 2) w2 w.heap.size (w.heap.size + 1) m x n y _).2.2.2.2.2.mono (by omega))⟩

set_option maxHeartbeats 400000 in
theorem iDecSub_any (m x n y : Int) (w : World) (h1 : -9223372036854775808 ≤ n) (h2 : n ≤ 9223372036854775807) :
    Calls Try.prog 20 #[.agg #[.int .i64 m, .int .i64 x], .agg #[.int .i64 n, .int .i64 y]] w fun e w' => e = dec3 (Dm.sub m x n y) ∧ Below w.heap.size w w' := by
  obtain ⟨W0, hW0⟩ : ∃ W0, W0 = ((w.alloc (.cells #[.int .i64 m, .int .i64 x] 26)).alloc (.cells #[.int .i64 n, .int .i64 y] 26)).alloc (.cells #[.int .i64 0, .int .i64 0] 26) := ⟨_, rfl⟩
  have T0 : Three W0 w.heap.size m x n y 0 0 := by subst hW0; exact Three.new w m x n y 0 0 _ _ _
  have hB0 : Below w.heap.size w W0 := by subst hW0; exact (by (repeat' (first | assumption | exact Below.refl _ _ | refine Below.alloc ?_ ?_ _ | refine Below.setCell ?_ ?_ _ | refine Below.drew ?_ | refine below_drewN ?_ _)) <;> (first | omega | (simp <;> omega)))
  obtain ⟨⟨a0, a1, a2, a3⟩, ⟨b0, b1, b2, b3⟩, ⟨r0, r1, r2, r3⟩, hz⟩ := T0
  have hStart : HeldK (w.heap.size + 2) W0 w.heap.size (w.heap.size + 1) m x n y W0 := HeldK.start a0 a1 b0 b1 (by omega)
  by_cases hmin : n = -9223372036854775808
  · subst hmin
    have HF : Hid (Dm.sub m x (-9223372036854775808) y = Dm.add m x (-9223372036854775808) y) := by unfold Hid; rw [Dm.sub_min, Dm.add_min]
    clear h1 h2
    go_enter Try.func20, Try.ntmps20
    go_wp2_with fail
    rw [← hW0]
    clear hW0
    go_region_held3 (fun w' => w'.cell? ⟨w.heap.size, 0, none⟩ = some (.int .i64 m) ∧ w'.cell? ⟨w.heap.size, 1, none⟩ = some (.int .i64 x) ∧ w'.cell? ⟨w.heap.size + 1, 0, none⟩ = some (.int .i64 (-9223372036854775808)) ∧ w'.cell? ⟨w.heap.size + 1, 1, none⟩ = some (.int .i64 y) ∧ w.heap.size + 2 ≤ w'.heap.size ∧ Below (w.heap.size + 2) W0 w') (first | exact hStart.drew | assumption | (refine HeldK.set (by assumption) ?_ ?_ ?_ _ _ <;> omega)) (first
      | (go_at_call 47; refine (opposite_min _ _).mono ?_; rintro e w1 ⟨rfl, hb1⟩; have hS : HeldK (w.heap.size + 2) W0 w.heap.size (w.heap.size + 1) m x (-9223372036854775808) y w1 := HeldK.below (by assumption) hb1; have hz := hb1.size; obtain ⟨hc, hf⟩ := bsome hb1; (try simp at hz); (try (have hbb := below_step (by assumption) hb1; obtain ⟨hc', hf'⟩ := bsome hbb)))
      | (go_at_call 17; refine (iDecAdd_any _ _ _ _ _).mono ?_; rintro e w1 ⟨rfl, hb1⟩; have hS : HeldK (w.heap.size + 2) W0 w.heap.size (w.heap.size + 1) m x (-9223372036854775808) y w1 := HeldK.below (by assumption) hb1; have hz := hb1.size; obtain ⟨hc, hf⟩ := bsome hb1; (try simp at hz); (try (have hbb := below_step (by assumption) hb1; obtain ⟨hc', hf'⟩ := bsome hbb))))
    go_wp2_with fail
    exact bodyPost_ret (v := .tuple #[.agg #[.int .i64 (Dm.add m x (-9223372036854775808) y).1, .int .i64 (Dm.add m x (-9223372036854775808) y).2.1], .bool (Dm.add m x (-9223372036854775808) y).2.2]) (by simp [results, Try.results20, go_sem, *]) rfl ⟨by rw [HF.out], hB0.trans ((by assumption : HeldK (w.heap.size + 2) W0 w.heap.size (w.heap.size + 1) m x (-9223372036854775808) y _).2.2.2.2.2.mono (by omega))⟩
  · have HF : Hid (Dm.sub m x n y = Dm.add m x (-n) y) := (Dm.sub_add m x n y).symm
    go_enter Try.func20, Try.ntmps20
    go_wp2_with fail
    rw [← hW0]
    clear hW0
    go_region_held3 (fun w' => w'.cell? ⟨w.heap.size, 0, none⟩ = some (.int .i64 m) ∧ w'.cell? ⟨w.heap.size, 1, none⟩ = some (.int .i64 x) ∧ w'.cell? ⟨w.heap.size + 1, 0, none⟩ = some (.int .i64 n) ∧ w'.cell? ⟨w.heap.size + 1, 1, none⟩ = some (.int .i64 y) ∧ w.heap.size + 2 ≤ w'.heap.size ∧ Below (w.heap.size + 2) W0 w') (first | exact hStart.drew | assumption | (refine HeldK.set (by assumption) ?_ ?_ ?_ _ _ <;> omega)) (first
      | (go_at_call 47; refine (opposite_any _ _ _ (by omega) (by omega)).mono ?_; rintro e w1 ⟨rfl, hb1⟩; have hS : HeldK (w.heap.size + 2) W0 w.heap.size (w.heap.size + 1) m x n y w1 := HeldK.below (by assumption) hb1; have hz := hb1.size; obtain ⟨hc, hf⟩ := bsome hb1; (try simp at hz); (try (have hbb := below_step (by assumption) hb1; obtain ⟨hc', hf'⟩ := bsome hbb)))
      | (go_at_call 17; refine (iDecAdd_any _ _ _ _ _).mono ?_; rintro e w1 ⟨rfl, hb1⟩; have hS : HeldK (w.heap.size + 2) W0 w.heap.size (w.heap.size + 1) m x n y w1 := HeldK.below (by assumption) hb1; have hz := hb1.size; obtain ⟨hc, hf⟩ := bsome hb1; (try simp at hz); (try (have hbb := below_step (by assumption) hb1; obtain ⟨hc', hf'⟩ := bsome hbb))))
    go_wp2_with fail
    exact bodyPost_ret (v := .tuple #[.agg #[.int .i64 (Dm.add m x (-n) y).1, .int .i64 (Dm.add m x (-n) y).2.1], .bool (Dm.add m x (-n) y).2.2]) (by simp [results, Try.results20, go_sem, *]) rfl ⟨by rw [HF.out], hB0.trans ((by assumption : HeldK (w.heap.size + 2) W0 w.heap.size (w.heap.size + 1) m x n y _).2.2.2.2.2.mono (by omega))⟩
end Go.Proofs.Ythpnbjigpdgmpaa
