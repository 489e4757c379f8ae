/- Contracts of what the exact laws alone call: toDec, eqDec. -/
import Derived.Test.YtapdlnakbpociaaDecB
namespace Go.Proofs.Ytapdlnakbpociaa
open Go.RowKit

set_option maxHeartbeats 400000 in
theorem toDec_any (m x : Int) (w : World) :
    Calls Try.prog 27 #[.agg #[.int .i64 m, .int .i64 x]] w fun e w' => e = .returned (.agg #[.int .i64 m, .int .i64 x]) ∧ Below w.heap.size w w' := by
  go_enter Try.func27, Try.ntmps27
  go_wp2
  exact bodyPost_ret (v := .agg #[.int .i64 m, .int .i64 x]) (by simp [results, Try.results27, go_sem]) rfl ⟨rfl, (by (repeat' (first | assumption | exact Below.refl _ _ | refine Below.alloc ?_ ?_ _ | refine Below.setCell ?_ ?_ _ | refine Below.drew ?_ | refine below_drewN ?_ _)) <;> (first | omega | (simp <;> omega)))⟩

set_option maxHeartbeats 400000 in
theorem eqDec_any (m x n y : Int) (w : World) :
    Calls Try.prog 30 #[.agg #[.int .i64 m, .int .i64 x], .agg #[.int .i64 n, .int .i64 y]] w fun e w' => e = .returned (.bool (decide (m = n) && decide (x = y))) ∧ Below w.heap.size w w' := by
  go_enter Try.func30, Try.ntmps30
  go_wp2
  all_goals
    go_ret
    exact ⟨ret_bool (by simp_all), ((Below.refl _ _).alloc (Nat.le_refl _) _).alloc (by simp) _⟩
end Go.Proofs.Ytapdlnakbpociaa
