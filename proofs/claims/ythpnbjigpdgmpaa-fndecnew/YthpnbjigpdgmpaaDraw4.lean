/- The draw of a whole number and a power; the law FnDecNew walked. -/
import Derived.Test.YthpnbjigpdgmpaaDraw3
import Derived.Test.YthpnbjigpdgmpaaDecG
import Derived.Test.YthpnbjigpdgmpaaDm6
namespace Go.Proofs.Ythpnbjigpdgmpaa
open Go.RowKit
attribute [local go_sem] cell_alloc_is frozen_alloc_is

set_option maxHeartbeats 1000000 in
theorem drawNew_any (W : World) (a : Option Addr) (len cap : Nat) (h : CodeIn W a len cap) :
    Calls Try.prog 12 #[.slice a len cap] W fun e w' => ∃ m x, e = .returned (.tuple #[.int .i64 m, .int .i64 x]) ∧ (-100000000000000001 ≤ m ∧ m ≤ 100000000000000001) ∧ (-33 ≤ x ∧ x ≤ 32) ∧ Below W.heap.size W w' := by
  go_enter Try.func12, Try.ntmps12
  go_wp2_with fail
  refine (l1Open_any _ _ _ _ h).mono ?_
  rintro e w1 ⟨len', rfl, R1⟩
  clear h
  go_wp2_with fail
  refine (pick_any _ R1 (by omega) (by omega) (by omega)).mono ?_
  rintro e w2 ⟨⟨v, rfl, v0, v1⟩, s2⟩
  have R2 := R1.step s2
  have hl2 := R2.lt
  clear R1 s2
  go_wp2_with fail
  refine (one_any (R2.below ((Below.refl _ _).alloc (Nat.le_refl _) (.cells #[.int .i64 (v * 1000), .int .i64 99999999, .int .i64 100000000, .int .i64 (-12300), .int .i64 0, .int .i64 100000000000000000, .int .i64 100000000000000001, .int .i64 10000000000000000] 3))) (by omega) w2.heap.size 8 [v * 1000, 99999999, 100000000, -12300, 0, 100000000000000000, 100000000000000001, 10000000000000000] (by omega) rfl (by omega) (by omega) (cells_list w2 [v * 1000, 99999999, 100000000, -12300, 0, 100000000000000000, 100000000000000001, 10000000000000000] 3)).mono ?_
  rintro e w3 ⟨⟨m, rfl, hm⟩, s3⟩
  have R3 := (R2.below ((Below.refl _ _).alloc (Nat.le_refl _) (.cells #[.int .i64 (v * 1000), .int .i64 99999999, .int .i64 100000000, .int .i64 (-12300), .int .i64 0, .int .i64 100000000000000000, .int .i64 100000000000000001, .int .i64 10000000000000000] 3))).step s3
  have hmb : -100000000000000001 ≤ m ∧ m ≤ 100000000000000001 := by simp at hm; omega
  have hl3 := R3.lt
  clear R2 s3 hm hl2
  go_wp2_with fail
  refine (one_any (R3.below ((Below.refl _ _).alloc (Nat.le_refl _) (.cells #[.int .i64 0, .int .i64 (-3), .int .i64 8, .int .i64 (-9), .int .i64 32, .int .i64 (-33), .int .i64 (-32)] 3))) (by omega) w3.heap.size 7 [0, -3, 8, -9, 32, -33, -32] (by omega) rfl (by omega) (by omega) (cells_list w3 [0, -3, 8, -9, 32, -33, -32] 3)).mono ?_
  rintro e w4 ⟨⟨x, rfl, hx⟩, s4⟩
  have R4 := (R3.below ((Below.refl _ _).alloc (Nat.le_refl _) (.cells #[.int .i64 0, .int .i64 (-3), .int .i64 8, .int .i64 (-9), .int .i64 32, .int .i64 (-33), .int .i64 (-32)] 3))).step s4
  have hxb : -33 ≤ x ∧ x ≤ 32 := by simp at hx; omega
  clear R3 s4 hx hl3
  go_wp2_with fail
  go_ret2
  exact ⟨m, x, rfl, hmb, hxb, R4.1⟩
end Go.Proofs.Ythpnbjigpdgmpaa
