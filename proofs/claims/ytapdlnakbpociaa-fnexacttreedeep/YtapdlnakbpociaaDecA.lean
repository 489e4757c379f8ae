/- Contracts of the leaves of chapter 1: within, l1In, l1Big, DecOk of both sides, toDec, eqDec. -/
import Derived.Test.YtapdlnakbpociaaRows
import Derived.WalkKit
import Derived.WalkSpells
import Derived.WalkLawsBesides
import Derived.Test.YtapdlnakbpociaaDm
namespace Go.Proofs.Ytapdlnakbpociaa
open Go.RowKit

theorem ret_bool {a b : Bool} (h : a = b) : Ending.returned (.bool a) = .returned (.bool b) := by rw [h]

set_option maxHeartbeats 400000 in
theorem within_any (n l : Int) (w : World) (h0 : 0 ≤ l) (h1 : l ≤ 1000000000000000000) :
    Calls Try.prog 123 #[.int .i64 n, .int .i64 l] w fun e w' => e = .returned (.bool (decide (-l ≤ n) && decide (n ≤ l))) ∧ w' = w := by
  go_enter Try.func123, Try.ntmps123
  go_wp2
  all_goals
    go_ret
    exact ⟨ret_bool (by simp; try omega), rfl⟩

set_option maxHeartbeats 400000 in
theorem l1In_any (n a b : Int) (w : World) :
    Calls Try.prog 78 #[.int .i64 n, .int .i64 a, .int .i64 b] w fun e w' => e = .returned (.bool (decide (a ≤ n) && decide (n ≤ b))) ∧ w' = w := by
  go_enter Try.func78, Try.ntmps78
  go_wp2
  all_goals
    go_ret
    exact ⟨ret_bool (by simp; try omega), rfl⟩

set_option maxHeartbeats 400000 in
theorem iDecOk_any (m x : Int) (w : World) :
    Calls Try.prog 111 #[.agg #[.int .i64 m, .int .i64 x]] w fun e w' => e = .returned (.bool (Dm.ok m x)) ∧ Below w.heap.size w w' := by
  go_enter Try.func111, Try.ntmps111
  go_wp2
  all_goals
    go_ret
    exact ⟨ret_bool (by simp_all [Dm.ok]; try omega), (Below.refl _ _).alloc (Nat.le_refl _) _⟩

set_option maxHeartbeats 400000 in
theorem sDecOk_any (m x : Int) (w : World) :
    Calls Try.prog 80 #[.agg #[.int .i64 m, .int .i64 x]] w fun e w' => e = .returned (.bool (Dm.ok m x)) ∧ Below w.heap.size w w' := by
  go_enter Try.func80, Try.ntmps80
  go_wp2
  all_goals
    go_ret
    exact ⟨ret_bool (by simp_all [Dm.ok]; try omega), (Below.refl _ _).alloc (Nat.le_refl _) _⟩

end Go.Proofs.Ytapdlnakbpociaa
