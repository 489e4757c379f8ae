/- The law FnExactDecRead walked. -/
import Derived.Test.YtldlfmehplemiaaDecX
import Derived.Test.YtldlfmehplemiaaReadC
namespace Go.Proofs.Ytldlfmehplemiaa
open Go.RowKit
set_option maxHeartbeats 1000000 in
theorem walk_FnExactDecRead (s : ByteArray) (w : World) (hs : s.size ≤ maxLen) :
    Calls Try.prog 4 #[.string s] w fun e w' => e = .returned (.bool true) ∧ Below w.heap.size w w' := by
  unfold maxLen at hs
  by_cases h : s.size ≤ 1048576
  · go_enter Try.func4, Try.ntmps4
    go_wp2_with fail
    refine (sDecRead_any s _ (by omega)).mono ?_
    rintro e w1 ⟨rfl, hb1⟩
    have hz1 := hb1.size
    generalize hr : Rm.read s.data.toList = r
    go_wp2_with fail
    refine (iDecRead_any s _ (by omega)).mono ?_
    rintro e w2 ⟨rfl, hb2⟩
    rw [hr]
    clear hr
    have tw := (Two.new w1 r.1 r.2.1 25).below hb2 (by simp)
    have hz2 : w1.heap.size < w2.heap.size := by have := hb2.size; simp at this; omega
    have hB2 : Below w.heap.size w w2 := (hb1.alloc (by omega) _).trans (hb2.mono (by simp; omega))
    clear hb1 hb2
    obtain ⟨c0, c1, f0, f1⟩ := tw
    go_wp2_with fail
    refine (eqDec_any _ _ _ _ _).mono ?_
    rintro e w3 ⟨rfl, hb3⟩
    have hB3 : Below w.heap.size w w3 := (hB2.alloc (by omega) _).trans (hb3.mono (by simp; omega))
    clear hb3 hB2
    have hq : (decide (r.1 = r.1) && decide (r.2.1 = r.2.1)) = true := by simp
    go_wp2_with fail
    go_ret
    exact ⟨rfl, hB3⟩
  · go_enter Try.func4, Try.ntmps4
    go_wp2_with fail
    go_ret
    exact ⟨rfl, Below.refl _ _⟩
end Go.Proofs.Ytldlfmehplemiaa
