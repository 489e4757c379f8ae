/- Contracts: l1Neg, opposite, DecSub of both sides. -/
import Derived.Test.YtldlfmehplemiaaDecF
import Derived.Test.YtldlfmehplemiaaHeld
import Derived.OpenShut
namespace Go.Proofs.Ytldlfmehplemiaa
open Go.RowKit
attribute [local go_sem] cell_alloc_is frozen_alloc_is
theorem wf_bd {n : Int} (h : (Lit.int .i64 n).wf = true) : -9223372036854775808 ≤ n ∧ n ≤ 9223372036854775807 := bounds_i64 h

set_option maxHeartbeats 400000 in
theorem l1Neg_any (m x : Int) (w : World) (h1 : -9223372036854775807 ≤ m) (h2 : m ≤ 9223372036854775807) :
    Calls Try.prog 29 #[.agg #[.int .i64 m, .int .i64 x]] w fun e w' => e = .returned (.agg #[.int .i64 (-m), .int .i64 x]) ∧ Below w.heap.size w w' := by
  go_enter Try.func29, Try.ntmps29
  go_wp2
  exact bodyPost_ret (v := .agg #[.int .i64 (-m), .int .i64 x]) (by simp [results, Try.results29, go_sem]) rfl ⟨rfl, (by (repeat' (first | assumption | exact Below.refl _ _ | refine Below.alloc ?_ ?_ _ | refine Below.setCell ?_ ?_ _ | refine Below.drew ?_ | refine below_drewN ?_ _)) <;> (first | omega | (simp <;> omega)))⟩

set_option maxHeartbeats 400000 in
theorem opposite_any (m x : Int) (w : World) (h1 : -9223372036854775807 ≤ m) (h2 : m ≤ 9223372036854775807) :
    Calls Try.prog 45 #[.agg #[.int .i64 m, .int .i64 x]] w fun e w' => e = .returned (.agg #[.int .i64 (-m), .int .i64 x]) ∧ Below w.heap.size w w' := by
  go_enter Try.func45, Try.ntmps45
  go_wp2
  exact bodyPost_ret (v := .agg #[.int .i64 (-m), .int .i64 x]) (by simp [results, Try.results45, go_sem]) rfl ⟨rfl, (by (repeat' (first | assumption | exact Below.refl _ _ | refine Below.alloc ?_ ?_ _ | refine Below.setCell ?_ ?_ _ | refine Below.drew ?_ | refine below_drewN ?_ _)) <;> (first | omega | (simp <;> omega)))⟩

set_option maxHeartbeats 400000 in
theorem opposite_min (x : Int) (w : World) :
    Calls Try.prog 45 #[.agg #[.int .i64 (-9223372036854775808), .int .i64 x]] w fun e w' => e = .returned (.agg #[.int .i64 (-9223372036854775808), .int .i64 x]) ∧ Below w.heap.size w w' := by
  go_enter Try.func45, Try.ntmps45
  go_wp2
  exact bodyPost_ret (v := .agg #[.int .i64 (-9223372036854775808), .int .i64 x]) (by simp [results, Try.results45, go_sem]; unfold wrap64; decide) rfl ⟨rfl, (by (repeat' (first | assumption | exact Below.refl _ _ | refine Below.alloc ?_ ?_ _ | refine Below.setCell ?_ ?_ _ | refine Below.drew ?_ | refine below_drewN ?_ _)) <;> (first | omega | (simp <;> omega)))⟩

set_option maxHeartbeats 400000 in
theorem iDecSub_any (m x n y : Int) (w : World) (h1 : -9223372036854775808 ≤ n) (h2 : n ≤ 9223372036854775807) :
    Calls Try.prog 19 #[.agg #[.int .i64 m, .int .i64 x], .agg #[.int .i64 n, .int .i64 y]] w fun e w' => e = dec3 (Dm.sub m x n y) ∧ Below w.heap.size w w' := by
  obtain ⟨W0, hW0⟩ : ∃ W0, W0 = ((w.alloc (.cells #[.int .i64 m, .int .i64 x] 25)).alloc (.cells #[.int .i64 n, .int .i64 y] 25)).alloc (.cells #[.int .i64 0, .int .i64 0] 25) := ⟨_, rfl⟩
  have T0 : Three W0 w.heap.size m x n y 0 0 := by subst hW0; exact Three.new w m x n y 0 0 _ _ _
  have hB0 : Below w.heap.size w W0 := by subst hW0; exact (by (repeat' (first | assumption | exact Below.refl _ _ | refine Below.alloc ?_ ?_ _ | refine Below.setCell ?_ ?_ _ | refine Below.drew ?_ | refine below_drewN ?_ _)) <;> (first | omega | (simp <;> omega)))
  obtain ⟨⟨a0, a1, a2, a3⟩, ⟨b0, b1, b2, b3⟩, ⟨r0, r1, r2, r3⟩, hz⟩ := T0
  have hStart : HeldK (w.heap.size + 2) W0 w.heap.size (w.heap.size + 1) m x n y W0 := HeldK.start a0 a1 b0 b1 (by omega)
  by_cases hmin : n = -9223372036854775808
  · subst hmin
    have HF : Hid (Dm.sub m x (-9223372036854775808) y = Dm.add m x (-9223372036854775808) y) := by unfold Hid; rw [Dm.sub_min, Dm.add_min]
    clear h1 h2
    go_enter Try.func19, Try.ntmps19
    go_wp2_with fail
    rw [← hW0]
    clear hW0
    go_region_held3 (fun w' => w'.cell? ⟨w.heap.size, 0, none⟩ = some (.int .i64 m) ∧ w'.cell? ⟨w.heap.size, 1, none⟩ = some (.int .i64 x) ∧ w'.cell? ⟨w.heap.size + 1, 0, none⟩ = some (.int .i64 (-9223372036854775808)) ∧ w'.cell? ⟨w.heap.size + 1, 1, none⟩ = some (.int .i64 y) ∧ w.heap.size + 2 ≤ w'.heap.size ∧ Below (w.heap.size + 2) W0 w') (first | exact hStart.drew | assumption | (refine HeldK.set (by assumption) ?_ ?_ ?_ _ _ <;> omega)) (first
      | (go_at_call 45; refine (opposite_min _ _).mono ?_; rintro e w1 ⟨rfl, hb1⟩; have hS : HeldK (w.heap.size + 2) W0 w.heap.size (w.heap.size + 1) m x (-9223372036854775808) y w1 := HeldK.below (by assumption) hb1; have hz := hb1.size; obtain ⟨hc, hf⟩ := bsome hb1; (try simp at hz); (try (have hbb := below_step (by assumption) hb1; obtain ⟨hc', hf'⟩ := bsome hbb)))
      | (go_at_call 44; refine (iDecAdd_any _ _ _ _ _).mono ?_; rintro e w1 ⟨rfl, hb1⟩; have hS : HeldK (w.heap.size + 2) W0 w.heap.size (w.heap.size + 1) m x (-9223372036854775808) y w1 := HeldK.below (by assumption) hb1; have hz := hb1.size; obtain ⟨hc, hf⟩ := bsome hb1; (try simp at hz); (try (have hbb := below_step (by assumption) hb1; obtain ⟨hc', hf'⟩ := bsome hbb))))
    go_wp2_with fail
    exact bodyPost_ret (v := .tuple #[.agg #[.int .i64 (Dm.add m x (-9223372036854775808) y).1, .int .i64 (Dm.add m x (-9223372036854775808) y).2.1], .bool (Dm.add m x (-9223372036854775808) y).2.2]) (by simp [results, Try.results19, go_sem, *]) rfl ⟨by rw [HF.out], hB0.trans ((by assumption : HeldK (w.heap.size + 2) W0 w.heap.size (w.heap.size + 1) m x (-9223372036854775808) y _).2.2.2.2.2.mono (by omega))⟩
  · have HF : Hid (Dm.sub m x n y = Dm.add m x (-n) y) := (Dm.sub_add m x n y).symm
    go_enter Try.func19, Try.ntmps19
    go_wp2_with fail
    rw [← hW0]
    clear hW0
    go_region_held3 (fun w' => w'.cell? ⟨w.heap.size, 0, none⟩ = some (.int .i64 m) ∧ w'.cell? ⟨w.heap.size, 1, none⟩ = some (.int .i64 x) ∧ w'.cell? ⟨w.heap.size + 1, 0, none⟩ = some (.int .i64 n) ∧ w'.cell? ⟨w.heap.size + 1, 1, none⟩ = some (.int .i64 y) ∧ w.heap.size + 2 ≤ w'.heap.size ∧ Below (w.heap.size + 2) W0 w') (first | exact hStart.drew | assumption | (refine HeldK.set (by assumption) ?_ ?_ ?_ _ _ <;> omega)) (first
      | (go_at_call 45; refine (opposite_any _ _ _ (by omega) (by omega)).mono ?_; rintro e w1 ⟨rfl, hb1⟩; have hS : HeldK (w.heap.size + 2) W0 w.heap.size (w.heap.size + 1) m x n y w1 := HeldK.below (by assumption) hb1; have hz := hb1.size; obtain ⟨hc, hf⟩ := bsome hb1; (try simp at hz); (try (have hbb := below_step (by assumption) hb1; obtain ⟨hc', hf'⟩ := bsome hbb)))
      | (go_at_call 44; refine (iDecAdd_any _ _ _ _ _).mono ?_; rintro e w1 ⟨rfl, hb1⟩; have hS : HeldK (w.heap.size + 2) W0 w.heap.size (w.heap.size + 1) m x n y w1 := HeldK.below (by assumption) hb1; have hz := hb1.size; obtain ⟨hc, hf⟩ := bsome hb1; (try simp at hz); (try (have hbb := below_step (by assumption) hb1; obtain ⟨hc', hf'⟩ := bsome hbb))))
    go_wp2_with fail
    exact bodyPost_ret (v := .tuple #[.agg #[.int .i64 (Dm.add m x (-n) y).1, .int .i64 (Dm.add m x (-n) y).2.1], .bool (Dm.add m x (-n) y).2.2]) (by simp [results, Try.results19, go_sem, *]) rfl ⟨by rw [HF.out], hB0.trans ((by assumption : HeldK (w.heap.size + 2) W0 w.heap.size (w.heap.size + 1) m x n y _).2.2.2.2.2.mono (by omega))⟩
end Go.Proofs.Ytldlfmehplemiaa
