/- Contract: DecCmp of the spec. -/
import Derived.Test.YthpnbjigpdgmpaaDecM
namespace Go.Proofs.Ythpnbjigpdgmpaa
open Go.RowKit
attribute [local go_sem] cell_alloc_is frozen_alloc_is

set_option maxHeartbeats 1000000 in
theorem sDecCmp_any (m x n y : Int) (w : World) :
    Calls Try.prog 35 #[.agg #[.int .i64 m, .int .i64 x], .agg #[.int .i64 n, .int .i64 y]] w fun e w' => e = .returned (.int .i64 (Dm.cmp m x n y)) ∧ Below w.heap.size w w' := by
  have pre : ∀ w1 : World, Below ((w.alloc (.cells #[.int .i64 m, .int .i64 x] 26)).alloc (.cells #[.int .i64 n, .int .i64 y] 26)).heap.size ((w.alloc (.cells #[.int .i64 m, .int .i64 x] 26)).alloc (.cells #[.int .i64 n, .int .i64 y] 26)) w1 → Held w1 w.heap.size (w.heap.size + 1) m x n y w1 ∧ Below w.heap.size w w1 := by
    intro w1 hb
    have h0 : Held ((w.alloc (.cells #[.int .i64 m, .int .i64 x] 26)).alloc (.cells #[.int .i64 n, .int .i64 y] 26)) w.heap.size (w.heap.size + 1) m x n y ((w.alloc (.cells #[.int .i64 m, .int .i64 x] 26)).alloc (.cells #[.int .i64 n, .int .i64 y] 26)) := Held.start (by simp) (by simp) (by simp) (by simp)
    have h1 := h0.below hb
    exact ⟨Held.start h1.1 h1.2.1 h1.2.2.1 h1.2.2.2.1, Below.trans (by (repeat' (first | assumption | exact Below.refl _ _ | refine Below.alloc ?_ ?_ _ | refine Below.setCell ?_ ?_ _ | refine Below.drew ?_ | refine below_drewN ?_ _)) <;> (first | omega | (simp <;> omega))) (hb.mono (by simp; omega))⟩
  have PRE := hideIt pre
  clear pre
  go_enter Try.func35, Try.ntmps35
  go_wp2_with fail
  refine (sDecOk_any _ _ _).mono ?_
  rintro e w1 ⟨rfl, hb1⟩
  obtain ⟨H1, hB1⟩ := PRE.out w1 hb1
  clear hb1 PRE
  obtain ⟨a0, a1, b0, b1, -⟩ := id H1
  cases ho : Dm.ok m x
  · have HF : Hid (Dm.cmp m x n y = 0) := by unfold Hid; simp [Dm.cmp, ho]
    go_wp2_with fail
    go_ret
    exact ⟨by rw [HF.out]; rfl, (by (repeat' (first | assumption | exact Below.refl _ _ | refine Below.alloc ?_ ?_ _ | refine Below.setCell ?_ ?_ _ | refine Below.drew ?_ | refine below_drewN ?_ _)) <;> (first | omega | (simp <;> omega)))⟩
  · go_wp2_with fail
    refine (sDecOk_any _ _ _).mono ?_
    rintro e w2 ⟨rfl, hb2⟩
    have H2 := H1.below hb2
    have hB2 := hB1.trans (hb2.mono hB1.size)
    clear H1 hB1 a0 a1 b0 b1
    obtain ⟨a0, a1, b0, b1, -⟩ := id H2
    clear hb2
    cases hp : Dm.ok n y
    · have HF : Hid (Dm.cmp m x n y = 0) := by unfold Hid; simp [Dm.cmp, hp]
      go_wp2_with fail
      go_ret
      exact ⟨by rw [HF.out]; rfl, (by (repeat' (first | assumption | exact Below.refl _ _ | refine Below.alloc ?_ ?_ _ | refine Below.setCell ?_ ?_ _ | refine Below.drew ?_ | refine below_drewN ?_ _)) <;> (first | omega | (simp <;> omega)))⟩
    · go_wp2_with fail
      refine (l1Cmp_any _ _ _ _ _ ho hp).mono ?_
      rintro e w3 ⟨rfl, hb3⟩
      have hB3 := hB2.trans (hb3.mono hB2.size)
      go_wp2_with fail
      go_ret
      exact ⟨rfl, hB3⟩

end Go.Proofs.Ythpnbjigpdgmpaa
