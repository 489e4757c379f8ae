/- My own texts, joined: TxtB. -/
import Derived.Test.YtfgchdnpbbgmjaaJFnTomlNot0
import Derived.Deep.RegionHeld3
/- Contracts: figureCount, figureAt, figures. -/
namespace Go.Proofs.Ytfgchdnpbbgmjaa
open Go.RowKit
attribute [local go_sem] cell_alloc_is frozen_alloc_is

set_option maxHeartbeats 1000000 in
theorem figureCount_any (m : Int) (w : World) (m1 : -99999999 ≤ m) (m2 : m ≤ 99999999) :
    Calls Try.prog 126 #[.int .i64 m] w fun e w' => e = .returned (.int .i64 (Tm.cnt m.natAbs)) ∧ w' = w := by
  have HC : Hid (Tm.cnt m.natAbs = 1 + Tm.nd 8 (m.tdiv 10).natAbs) := by unfold Hid; rw [Tm.cnt, Tm.digs_nd, Int.natAbs_tdiv]; rfl
  have hb0 : (m.tdiv 10).natAbs < 10 ^ 8 := by rw [Int.natAbs_tdiv]; show m.natAbs / 10 < _; omega
  go_enter Try.func126, Try.ntmps126
  go_wp2_with fail
  go_loop [0, 3] (fun v c => ∃ (u : Int) (k f : Nat), v = .int .i64 u ∧ c = .int .i64 k ∧ Tm.cnt m.natAbs = k + Tm.nd f u.natAbs ∧ u.natAbs < 10 ^ f ∧ k ≤ 100 - f ∧ f ≤ 8) (fun v _ => (intOf v).natAbs)
  case atStart => exact ⟨_, 1, 8, rfl, rfl, HC.out, hb0, by omega, by omega⟩
  case round =>
    obtain ⟨u, k, f, rfl, rfl, h1, h2, h3, h4⟩ := hrel
    have H1 : Hid (Tm.cnt m.natAbs = k + Tm.nd f u.natAbs) := h1
    clear h1 HC
    by_cases hu : u = 0
    · subst hu
      go_wp2_with fail
      go_ret
      exact ⟨ret_int (by rw [H1.out]; simp [Tm.nd_zero]), rfl⟩
    · have hu' : (u != 0) = true := by simp [hu]
      obtain ⟨f', rfl⟩ : ∃ f', f = f' + 1 := ⟨f - 1, by
        by_cases hf : f = 0
        · subst hf; simp at h2; omega
        · omega⟩
      have hub : u.natAbs < 100000000 := Nat.lt_of_lt_of_le h2 (Nat.pow_le_pow_right (by omega) h4)
      have u1 : -100000000 ≤ u := by omega
      have u2 : u ≤ 100000000 := by omega
      have H2 : Hid (Tm.nd (f' + 1) u.natAbs = 1 + Tm.nd f' (u.tdiv 10).natAbs) := by unfold Hid; rw [Tm.nd_succ _ _ (by omega), Int.natAbs_tdiv]; rfl
      have H3 : Hid ((u.tdiv 10).natAbs < 10 ^ f') := by unfold Hid; rw [Int.natAbs_tdiv]; show u.natAbs / 10 < _; rw [Nat.pow_succ] at h2; omega
      clear h2
      go_wp2_with fail
      go_round
      case rel => exact ⟨_, k + 1, f', rfl, by go_num, by rw [H1.out, H2.out]; omega, H3.out, by omega, by omega⟩
      case measure => exact Dm.tdiv_lt u hu

set_option maxHeartbeats 1000000 in
theorem figureAt_any (m x p : Int) (w : World) (m1 : -99999999 ≤ m) (m2 : m ≤ 99999999) (_x1 : -8 ≤ x) (_x2 : x ≤ 8) (_p1 : -8 ≤ p) (_p2 : p ≤ 20) (hpx : p - x ≤ 18) :
    Calls Try.prog 127 #[.agg #[.int .i64 m, .int .i64 x], .int .i64 p] w fun e w' => e = .returned (.int .u8 (Tm.figAt m.natAbs x p)) ∧ Below w.heap.size w w' := by
  by_cases h : p < x
  · have HF : Hid (Tm.figAt m.natAbs x p = 48) := by unfold Hid; rw [Tm.figAt, if_pos h]
    go_enter Try.func127, Try.ntmps127
    go_wp2_with fail
    go_ret
    exact ⟨by rw [HF.out]; rfl, (by (repeat' (first | assumption | exact Below.refl _ _ | refine Below.alloc ?_ ?_ _ | refine Below.setCell ?_ ?_ _ | refine Below.drew ?_ | refine below_drewN ?_ _)) <;> (first | omega | (simp <;> omega)))⟩
  · have hp := Dm.p10_pos (p - x)
    have HP : Hid (Dm.p10 (p - x) = ((10 ^ (p - x).toNat : Nat) : Int)) := by unfold Hid Dm.p10; exact (Int.natCast_pow 10 _).symm
    have HF : Hid (Tm.figAt m.natAbs x p = 48 + (m.natAbs : Int) / Dm.p10 (p - x) % 10) := by
      unfold Hid; rw [Tm.figAt, if_neg h, HP.out]; rfl
    have T := fun w => tenTo_any (p - x) w (by omega) hpx
    go_enter Try.func127, Try.ntmps127
    go_wp2_with fail
    have ht2 : Dm.p10 (p - x) ≤ 1000000000000000000 := by have := Dm.p10_mono (j := p - x) (k := 18) (by omega); have e : Dm.p10 18 = 1000000000000000000 := rfl; omega
    generalize Dm.p10 (p - x) = t at *
    have hz : (t == 0) = false := by simp; omega
    have hw : IntKind.i64.wrap (p - x) = p - x := by rw [IntKind.wrap_i64]; omega
    have hw2 : IntKind.i64.wrap (-m) = -m := by rw [IntKind.wrap_i64]; omega
    go_quiet ((go_at_call 136; exact Calls.quiet_of_same (T _)))
    go_wp2_with fail
    all_goals
      go_ret
      refine ⟨ret_int ?_, below_drewN (by (repeat' (first | assumption | exact Below.refl _ _ | refine Below.alloc ?_ ?_ _ | refine Below.setCell ?_ ?_ _ | refine Below.drew ?_ | refine below_drewN ?_ _)) <;> (first | omega | (simp <;> omega))) _⟩
      rw [HF.out]
    · have e : (m.natAbs : Int) = -m := by omega
      have q : 0 ≤ -m / t := Int.ediv_nonneg (by omega) (by omega)
      rw [e, Int.tmod_eq_emod_of_nonneg q]; omega
    · have e : (m.natAbs : Int) = m := by omega
      have q : 0 ≤ m / t := Int.ediv_nonneg (by omega) (by omega)
      rw [e, Int.tmod_eq_emod_of_nonneg q]; omega

set_option maxHeartbeats 400000 in
theorem figures_any (m x : Int) (w : World) :
    Calls Try.prog 116 #[.agg #[.int .i64 m, .int .i64 x]] w fun e w' => e = .returned (.func (.func 125) #[] #[.pointer (some ⟨w.heap.size, 0, none⟩)]) ∧ w' = w.alloc (.cells #[.int .i64 m, .int .i64 x] 24) := by
  go_enter Try.func116, Try.ntmps116
  go_wp2_with fail
  go_ret
  exact ⟨rfl, rfl⟩
end Go.Proofs.Ytfgchdnpbbgmjaa
