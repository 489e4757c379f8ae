/- The laws FnExactDecNew and FnExactDecMul walked. -/
import Derived.Test.YtddephmekoiemaaDecC
namespace Go.Proofs.Ytddephmekoiemaa
open Go.RowKit

set_option maxHeartbeats 400000 in
theorem walk_FnExactDecNew (m x : Int) (w : World) (_wm : (Lit.int .i64 m).wf = true) (_wx : (Lit.int .i64 x).wf = true) :
    Calls Try.prog 4 #[.int .i64 m, .int .i64 x] w fun e w' => e = .returned (.bool true) ∧ Below w.heap.size w w' := by
  clear _wm _wx
  go_enter Try.func4, Try.ntmps4
  go_wp2_with fail
  refine (sDecNew_any _ _ _).mono ?_
  rintro e w1 ⟨rfl, hb1⟩
  have hz1 := hb1.size
  go_wp2_with fail
  refine (iDecNew_any _ _ _).mono ?_
  rintro e w2 ⟨rfl, hb2⟩
  generalize Dm.new m x = r at *
  have tw := (Two.new w1 r.1 r.2.1 25).below hb2 (by simp)
  have hz2 : w1.heap.size < w2.heap.size := by have := hb2.size; simp at this; omega
  have hB2 : Below w.heap.size w w2 := (hb1.alloc (by omega) _).trans (hb2.mono (by simp; omega))
  clear hb1 hb2
  obtain ⟨c0, c1, f0, f1⟩ := tw
  go_wp2_with fail
  refine (eqDec_any _ _ _ _ _).mono ?_
  rintro e w3 ⟨rfl, hb3⟩
  have hB3 : Below w.heap.size w w3 := (hB2.alloc (by omega) _).trans (hb3.mono (by simp; omega))
  clear hb3 hB2
  have hq : (decide (r.1 = r.1) && decide (r.2.1 = r.2.1)) = true := by simp
  go_wp2_with fail
  go_ret
  exact ⟨rfl, hB3⟩
end Go.Proofs.Ytddephmekoiemaa
