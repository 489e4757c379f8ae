/- The law FnExactQuotePut walked. -/
import Derived.Test.YtkdilgmlabaehaaQuoR
namespace Go.Proofs.Ytkdilgmlabaehaa
open Go.RowKit
set_option maxHeartbeats 400000 in
theorem walk_FnExactQuotePut (s : ByteArray) (w : World) (hs : s.size ≤ maxLen) :
    Calls Try.prog 3 #[.string s] w fun e w' => e = .returned (.bool true) ∧ Below w.heap.size w w' := by
  unfold maxLen at hs
  by_cases h : s.size ≤ 1048576
  · go_enter Try.func3, Try.ntmps3
    go_wp2_with fail
    refine (sQuotePut_any _ _ (by omega)).mono ?_
    rintro e w1 ⟨rfl, hb1⟩
    go_wp2_with fail
    refine (iQuotePut_any _ _ (by omega)).mono ?_
    rintro e w2 ⟨rfl, hb2⟩
    generalize (⟨(Qm.quote s.data.toList).toArray⟩ : ByteArray) = q
    go_wp2_with fail
    go_ret
    exact ⟨rfl, hb1.trans (hb2.mono hb1.size)⟩
  · go_enter Try.func3, Try.ntmps3
    go_wp2_with fail
    go_ret
    exact ⟨rfl, Below.refl _ _⟩
end Go.Proofs.Ytkdilgmlabaehaa
