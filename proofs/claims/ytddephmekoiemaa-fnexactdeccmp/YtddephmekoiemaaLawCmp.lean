/- The law FnExactDecCmp walked. -/
import Derived.Test.YtddephmekoiemaaDecM
namespace Go.Proofs.Ytddephmekoiemaa
open Go.RowKit
attribute [local go_sem] cell_alloc_is frozen_alloc_is

set_option maxHeartbeats 1000000 in
theorem sDecCmp_any (m x n y : Int) (w : World) :
    Calls Try.prog 29 #[.agg #[.int .i64 m, .int .i64 x], .agg #[.int .i64 n, .int .i64 y]] w fun e w' => e = .returned (.int .i64 (Dm.cmp m x n y)) ∧ Below w.heap.size w w' := by
  have pre : ∀ w1 : World, Below ((w.alloc (.cells #[.int .i64 m, .int .i64 x] 25)).alloc (.cells #[.int .i64 n, .int .i64 y] 25)).heap.size ((w.alloc (.cells #[.int .i64 m, .int .i64 x] 25)).alloc (.cells #[.int .i64 n, .int .i64 y] 25)) w1 → Held w1 w.heap.size (w.heap.size + 1) m x n y w1 ∧ Below w.heap.size w w1 := by
    intro w1 hb
    have h0 : Held ((w.alloc (.cells #[.int .i64 m, .int .i64 x] 25)).alloc (.cells #[.int .i64 n, .int .i64 y] 25)) w.heap.size (w.heap.size + 1) m x n y ((w.alloc (.cells #[.int .i64 m, .int .i64 x] 25)).alloc (.cells #[.int .i64 n, .int .i64 y] 25)) := Held.start (by simp) (by simp) (by simp) (by simp)
    have h1 := h0.below hb
    exact ⟨Held.start h1.1 h1.2.1 h1.2.2.1 h1.2.2.2.1, Below.trans (by (repeat' (first | assumption | exact Below.refl _ _ | refine Below.alloc ?_ ?_ _ | refine Below.setCell ?_ ?_ _ | refine Below.drew ?_ | refine below_drewN ?_ _)) <;> (first | omega | (simp <;> omega))) (hb.mono (by simp; omega))⟩
  have PRE := hideIt pre
  clear pre
  go_enter Try.func29, Try.ntmps29
  go_wp2_with fail
  refine (sDecOk_any _ _ _).mono ?_
  rintro e w1 ⟨rfl, hb1⟩
  obtain ⟨H1, hB1⟩ := PRE.out w1 hb1
  clear hb1 PRE
  obtain ⟨a0, a1, b0, b1, -⟩ := id H1
  cases ho : Dm.ok m x
  · have HF : Hid (Dm.cmp m x n y = 0) := by unfold Hid; simp [Dm.cmp, ho]
    go_wp2_with fail
    go_ret
    exact ⟨by rw [HF.out]; rfl, (by (repeat' (first | assumption | exact Below.refl _ _ | refine Below.alloc ?_ ?_ _ | refine Below.setCell ?_ ?_ _ | refine Below.drew ?_ | refine below_drewN ?_ _)) <;> (first | omega | (simp <;> omega)))⟩
  · go_wp2_with fail
    refine (sDecOk_any _ _ _).mono ?_
    rintro e w2 ⟨rfl, hb2⟩
    have H2 := H1.below hb2
    have hB2 := hB1.trans (hb2.mono hB1.size)
    clear H1 hB1 a0 a1 b0 b1
    obtain ⟨a0, a1, b0, b1, -⟩ := id H2
    clear hb2
    cases hp : Dm.ok n y
    · have HF : Hid (Dm.cmp m x n y = 0) := by unfold Hid; simp [Dm.cmp, hp]
      go_wp2_with fail
      go_ret
      exact ⟨by rw [HF.out]; rfl, (by (repeat' (first | assumption | exact Below.refl _ _ | refine Below.alloc ?_ ?_ _ | refine Below.setCell ?_ ?_ _ | refine Below.drew ?_ | refine below_drewN ?_ _)) <;> (first | omega | (simp <;> omega)))⟩
    · go_wp2_with fail
      refine (l1Cmp_any _ _ _ _ _ ho hp).mono ?_
      rintro e w3 ⟨rfl, hb3⟩
      have hB3 := hB2.trans (hb3.mono hB2.size)
      go_wp2_with fail
      go_ret
      exact ⟨rfl, hB3⟩

set_option maxHeartbeats 1000000 in
theorem walk_FnExactDecCmp (m x n y : Int) (w : World) (_wm : (Lit.int .i64 m).wf = true) (_wx : (Lit.int .i64 x).wf = true) (_wn : (Lit.int .i64 n).wf = true) (_wy : (Lit.int .i64 y).wf = true) :
    Calls Try.prog 10 #[.agg #[.int .i64 m, .int .i64 x], .agg #[.int .i64 n, .int .i64 y]] w fun e w' => e = .returned (.bool true) ∧ Below w.heap.size w w' := by
  clear _wm _wx _wn _wy
  obtain ⟨W0, hW0⟩ : ∃ W0, W0 = (w.alloc (.cells #[.int .i64 m, .int .i64 x] 23)).alloc (.cells #[.int .i64 n, .int .i64 y] 23) := ⟨_, rfl⟩
  have hB_W0 : Below w.heap.size w W0 := by subst hW0; exact (by (repeat' (first | assumption | exact Below.refl _ _ | refine Below.alloc ?_ ?_ _ | refine Below.setCell ?_ ?_ _ | refine Below.drew ?_ | refine below_drewN ?_ _)) <;> (first | omega | (simp <;> omega)))
  have hs_W0 : Held W0 w.heap.size (w.heap.size + 1) m x n y W0 := by subst hW0; exact Held.start (by simp) (by simp) (by simp) (by simp)
  go_enter Try.func10, Try.ntmps10
  go_wp2_with fail
  rw [← hW0]
  clear hW0
  go_region_held3 (fun w' => w'.cell? ⟨w.heap.size, 0, none⟩ = some (.int .i64 m) ∧ w'.cell? ⟨w.heap.size, 1, none⟩ = some (.int .i64 x) ∧ w'.cell? ⟨w.heap.size + 1, 0, none⟩ = some (.int .i64 n) ∧ w'.cell? ⟨w.heap.size + 1, 1, none⟩ = some (.int .i64 y) ∧ Below W0.heap.size W0 w') (first | exact hs_W0.drew | assumption) (first
    | (go_at_call 14; refine (toDec_any _ _ _).mono ?_; rintro e w1 ⟨rfl, hb1⟩; have hS : Held W0 w.heap.size (w.heap.size + 1) m x n y w1 := Held.below (by assumption) hb1)
    | (go_at_call 29; refine (sDecCmp_any _ _ _ _ _).mono ?_; rintro e w1 ⟨rfl, hb1⟩; have hS : Held W0 w.heap.size (w.heap.size + 1) m x n y w1 := Held.below (by assumption) hb1))
  obtain ⟨W1, hW1⟩ : ∃ W', W' = w1 := ⟨_, rfl⟩
  subst hW1
  have hB_W1 : Below w.heap.size w W1 := hB_W0.trans (hS.2.2.2.2.mono hB_W0.size)
  have hs_W1 : Held W1 w.heap.size (w.heap.size + 1) m x n y W1 := Held.start hS.1 hS.2.1 hS.2.2.1 hS.2.2.2.1
  clear hS
  go_wp2_with fail
  go_region_held3 (fun w' => w'.cell? ⟨w.heap.size, 0, none⟩ = some (.int .i64 m) ∧ w'.cell? ⟨w.heap.size, 1, none⟩ = some (.int .i64 x) ∧ w'.cell? ⟨w.heap.size + 1, 0, none⟩ = some (.int .i64 n) ∧ w'.cell? ⟨w.heap.size + 1, 1, none⟩ = some (.int .i64 y) ∧ Below W1.heap.size W1 w') (first | exact hs_W1.drew | assumption) (first
    | (go_at_call 14; refine (toDec_any _ _ _).mono ?_; rintro e w1 ⟨rfl, hb1⟩; have hS : Held W1 w.heap.size (w.heap.size + 1) m x n y w1 := Held.below (by assumption) hb1)
    | (go_at_call 30; refine (iDecCmp_any _ _ _ _ _).mono ?_; rintro e w1 ⟨rfl, hb1⟩; have hS : Held W1 w.heap.size (w.heap.size + 1) m x n y w1 := Held.below (by assumption) hb1))
  have hB_W2 := hB_W1.trans (hS.2.2.2.2.mono hB_W1.size)
  have hq : (Dm.cmp m x n y != Dm.cmp m x n y) = false := by simp
  go_wp2_with fail
  go_ret
  exact ⟨rfl, hB_W2⟩
end Go.Proofs.Ytddephmekoiemaa
