/- The law FnExactQuoteGet walked. -/
import Derived.Test.YtkdilgmlabaehaaQuoW
namespace Go.Proofs.Ytkdilgmlabaehaa
open Go.RowKit
set_option maxHeartbeats 400000 in
theorem walk_FnExactQuoteGet (s : ByteArray) (w : World) (hs : s.size ≤ maxLen) :
    Calls Try.prog 4 #[.string s] w fun e w' => e = .returned (.bool true) ∧ Below w.heap.size w w' := by
  unfold maxLen at hs
  by_cases h : s.size ≤ 1048576
  · go_enter Try.func4, Try.ntmps4
    go_wp2_with fail
    refine (sQuoteGet_any _ _ (by omega)).mono ?_
    rintro e w1 ⟨rfl, hb1⟩
    generalize hq : Qm.qget s.data.toList = q
    generalize hx : (⟨(q.getD []).toArray⟩ : ByteArray) = x
    go_wp2_with fail
    refine (iQuoteGet_any _ _ (by omega)).mono ?_
    rintro e w2 ⟨rfl, hb2⟩
    have es : sres q = .returned (.tuple #[.string x, .bool q.isSome]) := by rw [← hx]
    rw [hq, es]
    clear es hx hq
    cases hi : q.isSome
    all_goals
      go_wp2_with fail
      go_ret
      exact ⟨rfl, hb1.trans (hb2.mono hb1.size)⟩
  · go_enter Try.func4, Try.ntmps4
    go_wp2_with fail
    go_ret
    exact ⟨rfl, Below.refl _ _⟩
end Go.Proofs.Ytkdilgmlabaehaa
