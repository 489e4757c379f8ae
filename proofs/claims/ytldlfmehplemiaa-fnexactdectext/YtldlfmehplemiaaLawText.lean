/- The law FnExactDecText walked. -/
import Derived.Test.YtldlfmehplemiaaDecX
import Derived.Test.YtldlfmehplemiaaTxtD
namespace Go.Proofs.Ytldlfmehplemiaa
open Go.RowKit

set_option maxHeartbeats 400000 in
theorem walk_FnExactDecText (m x : Int) (w : World) (_wm : (Lit.int .i64 m).wf = true) (_wx : (Lit.int .i64 x).wf = true) :
    Calls Try.prog 3 #[.agg #[.int .i64 m, .int .i64 x]] w fun e w' => e = .returned (.bool true) ∧ Below w.heap.size w w' := by
  clear _wm _wx
  go_enter Try.func3, Try.ntmps3
  go_wp2_with fail
  refine (toDec_any _ _ _).mono ?_
  rintro e w1 ⟨rfl, hb1⟩
  obtain ⟨hc1, hf1⟩ := bcell hb1
  go_wp2_with fail
  refine (sDecText_any _ _ _).mono ?_
  rintro e w2 ⟨rfl, hb2⟩
  generalize hT : textOf m x = T
  obtain ⟨hc2, hf2⟩ := bcell hb2
  have hz1 : w.heap.size < w1.heap.size := by have := hb1.size; simp at this; omega
  go_wp2_with fail
  refine (toDec_any _ _ _).mono ?_
  rintro e w3 ⟨rfl, hb3⟩
  go_wp2_with fail
  refine (iDecText_any _ _ _).mono ?_
  rintro e w4 ⟨rfl, hb4⟩
  rw [hT]
  clear hT
  go_wp2_with fail
  go_ret
  refine ⟨rfl, ?_⟩
  have hb0 := (Below.refl w.heap.size w).alloc (Nat.le_refl _) (Obj.cells #[Value.int IntKind.i64 m, Value.int IntKind.i64 x] 23)
  have hz2 := hb2.size
  have hz3 := hb3.size
  exact (((hb0.trans (hb1.mono (by simp))).trans (hb2.mono (by omega))).trans (hb3.mono (by omega))).trans (hb4.mono (by omega))
end Go.Proofs.Ytldlfmehplemiaa
