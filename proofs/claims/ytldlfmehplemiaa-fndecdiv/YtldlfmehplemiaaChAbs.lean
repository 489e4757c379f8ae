/- Contract: the law's own distance from 0. -/
import Derived.Test.YtldlfmehplemiaaDecG
namespace Go.Proofs.Ytldlfmehplemiaa
open Go.RowKit
attribute [local go_sem] cell_alloc_is frozen_alloc_is

set_option maxHeartbeats 400000 in
theorem chAbs_any (m x : Int) (w : World) (h1 : -9223372036854775807 ≤ m) (h2 : m ≤ 9223372036854775807) :
    Calls Try.prog 20 #[.agg #[.int .i64 m, .int .i64 x]] w fun e w' => e = .returned (.agg #[.int .i64 (m.natAbs : Int), .int .i64 x]) ∧ Below w.heap.size w w' := by
  by_cases h : m < 0
  · rw [show (m.natAbs : Int) = -m from by omega]
    go_enter Try.func20, Try.ntmps20
    go_wp2
    exact bodyPost_ret (v := .agg #[.int .i64 (-m), .int .i64 x]) (by simp [results, Try.results20, go_sem]) rfl ⟨rfl, (by (repeat' (first | assumption | exact Below.refl _ _ | refine Below.alloc ?_ ?_ _ | refine Below.setCell ?_ ?_ _ | refine Below.drew ?_ | refine below_drewN ?_ _)) <;> (first | omega | (simp <;> omega)))⟩
  · rw [show (m.natAbs : Int) = m from by omega]
    go_enter Try.func20, Try.ntmps20
    go_wp2
    exact bodyPost_ret (v := .agg #[.int .i64 m, .int .i64 x]) (by simp [results, Try.results20, go_sem]) rfl ⟨rfl, (by (repeat' (first | assumption | exact Below.refl _ _ | refine Below.alloc ?_ ?_ _ | refine Below.setCell ?_ ?_ _ | refine Below.drew ?_ | refine below_drewN ?_ _)) <;> (first | omega | (simp <;> omega)))⟩

end Go.Proofs.Ytldlfmehplemiaa
