/- Contracts: l1Least, l1Up, tenTo, manAt, l1Add, DecAdd of both sides. -/
import Derived.Test.YtldlfmehplemiaaDecD
import Derived.Deep.QuietTactic
import Derived.BigQuiet
namespace Go.Proofs.Ytldlfmehplemiaa
open Go.RowKit

theorem ret_int {k : IntKind} {a b : Int} (h : a = b) : Ending.returned (.int k a) = .returned (.int k b) := by rw [h]
/-- a number and a truth, as a call hands them back -/
abbrev int2 (r : Int × Bool) : Ending := .returned (.tuple #[.int .i64 r.1, .bool r.2])

set_option maxHeartbeats 400000 in
theorem tenTo_any (p : Int) (w : World) (h0 : 0 ≤ p) (h1 : p ≤ 18) :
    Calls Try.prog 63 #[.int .i64 p] w fun e w' => e = .returned (.int .i64 (Dm.p10 p)) ∧ w' = w := by
  go_enter Try.func63, Try.ntmps63
  go_wp2
  go_loop [3, 5] (fun t i => ∃ k : Int, 0 ≤ k ∧ k ≤ p ∧ i = .int .i64 k ∧ t = .int .i64 (Dm.p10 k)) (fun _ i => (p - intOf i).toNat)
  case atStart => exact ⟨0, by omega, by omega, rfl, rfl⟩
  case round =>
    obtain ⟨k, hk0, hk1, rfl, rfl⟩ := hrel
    by_cases hlt : k < p
    · have hp := Dm.p10_pos k
      have hb := Dm.p10_mono (j := k) (k := 17) (by omega)
      have hb2 : Dm.p10 17 = 100000000000000000 := rfl
      rw [hb2] at hb
      clear hb2
      have HS : Hid (Dm.p10 (k + 1) = Dm.p10 k * 10) := Dm.p10_succ k hk0
      go_wp2
      go_round
      case rel => exact ⟨k + 1, by omega, by omega, by go_num, by rw [HS.out]⟩
      case measure => simp [intOf]; omega
    · have : k = p := by omega
      subst this
      go_wp2
      go_ret
      exact ⟨rfl, rfl⟩

set_option maxHeartbeats 400000 in
theorem manAt_any (m x p : Int) (w : World) (hm : Dm.ok m x = true) (hp : p ≤ x) (hp2 : -8 ≤ p) :
    Calls Try.prog 46 #[.agg #[.int .i64 m, .int .i64 x], .int .i64 p] w fun e w' => e = int2 (Dm.manAt m x p) ∧ Below w.heap.size w w' := by
  obtain ⟨b1, b2, b3, b4⟩ := Dm.ok_bd hm
  by_cases h0 : m = 0
  · subst h0
    go_enter Try.func46, Try.ntmps46
    go_wp2
    go_ret2
    exact ⟨rfl, (by (repeat' (first | assumption | exact Below.refl _ _ | refine Below.alloc ?_ ?_ _ | refine Below.setCell ?_ ?_ _ | refine Below.drew ?_ | refine below_drewN ?_ _)) <;> (first | omega | (simp <;> omega)))⟩
  · have hz : (m == 0) = false := by simp [h0]
    by_cases h8 : 8 < x - p
    · have HF : Hid (Dm.manAt m x p = (0, false)) := by unfold Hid; simp [Dm.manAt, h0, h8]
      go_enter Try.func46, Try.ntmps46
      go_wp2
      go_ret2
      exact ⟨by rw [HF.out]; rfl, (by (repeat' (first | assumption | exact Below.refl _ _ | refine Below.alloc ?_ ?_ _ | refine Below.setCell ?_ ?_ _ | refine Below.drew ?_ | refine below_drewN ?_ _)) <;> (first | omega | (simp <;> omega)))⟩
    · have HF : Hid (Dm.manAt m x p = (m * Dm.p10 (x - p), true)) := by unfold Hid; simp [Dm.manAt, h0, h8]
      have hb := Dm.mul_bd (m := m) (n := Dm.p10 (x - p)) 99999999 100000000 (by omega) (by omega) (by omega) (by have := Dm.p10_pos (x - p); omega) (Dm.p10_mono (k := 8) (by omega))
      obtain ⟨hb1, hb2⟩ := hb
      go_enter Try.func46, Try.ntmps46
      go_wp2_with fail
      go_quiet ((go_at_call 63; exact Calls.quiet_of_same (tenTo_any _ _ (by omega) (by omega))))
      go_wp2
      go_ret2
      exact ⟨by rw [HF.out]; rfl, below_drewN (by (repeat' (first | assumption | exact Below.refl _ _ | refine Below.alloc ?_ ?_ _ | refine Below.setCell ?_ ?_ _ | refine Below.drew ?_ | refine below_drewN ?_ _)) <;> (first | omega | (simp <;> omega))) _⟩
end Go.Proofs.Ytldlfmehplemiaa
