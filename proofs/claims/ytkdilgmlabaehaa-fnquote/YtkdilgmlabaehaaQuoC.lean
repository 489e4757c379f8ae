/- Contracts: the byte that stands at a place between quotes, of both sides. -/
import Derived.Test.YtkdilgmlabaehaaQuoA
import Derived.Test.YtkdilgmlabaehaaQg
import Derived.Deep.QuietTactic
import Derived.BigQuiet
import Derived.Shelf.Small.Strs
namespace Go.Proofs.Ytkdilgmlabaehaa
open Go.RowKit

theorem ret_two {a a' b b' : Int} (h : a = a') (h2 : b = b') : Ending.returned (.tuple #[.int .u8 a, .int .i64 b]) = .returned (.tuple #[.int .u8 a', .int .i64 b']) := by rw [h, h2]
/-- a byte and how many bytes it takes, as a call hands them back -/
abbrev two (r : UInt8 × Nat) : Ending := .returned (.tuple #[.int .u8 r.1.toNat, .int .i64 r.2])

set_option maxHeartbeats 400000 in
theorem l2Hex_any (c : UInt8) (w : World) :
    Calls Try.prog 37 #[.int .u8 c.toNat] w fun e w' => e = .returned (.int .i64 (Qm.hexv c)) ∧ w' = w := by
  have hc := c.toNat_lt
  cases hf : Qm.fig c.toNat
  · by_cases h : 97 ≤ c.toNat ∧ c.toNat ≤ 102
    · obtain ⟨h1, h2⟩ := h
      have i1 : (97 : Int) ≤ c.toNat := by omega
      have i2 : (c.toNat : Int) ≤ 102 := by omega
      have he : Qm.hexv c = (c.toNat : Int) - 87 := by rw [Qm.hexv, hf, if_neg (by simp), if_pos ⟨h1, h2⟩]
      rw [he]
      clear he
      go_enter Try.func37, Try.ntmps37
      go_wp2_with (go_at_call 52; refine (l2Figure_any _ _).mono ?_; rintro e w' ⟨rfl, hw⟩; subst w')
      go_ret
      exact ⟨lret_int (by omega), rfl⟩
    · have he : Qm.hexv c = -1 := by rw [Qm.hexv, hf, if_neg (by simp), if_neg h]
      rw [he]
      clear he
      have h' : (c.toNat : Int) < 97 ∨ (102 : Int) < c.toNat := by omega
      clear h
      rcases h' with h | h
      all_goals
        go_enter Try.func37, Try.ntmps37
        go_wp2_with (go_at_call 52; refine (l2Figure_any _ _).mono ?_; rintro e w' ⟨rfl, hw⟩; subst w')
        go_ret
        exact ⟨rfl, rfl⟩
  · have he : Qm.hexv c = (c.toNat : Int) - 48 := by rw [Qm.hexv, hf, if_pos rfl]
    rw [he]
    clear he
    have hf' := hf
    simp [Qm.fig] at hf'
    obtain ⟨h1, h2⟩ := hf'
    have i1 : (48 : Int) ≤ c.toNat := by omega
    have i2 : (c.toNat : Int) ≤ 57 := by omega
    clear h1 h2
    go_enter Try.func37, Try.ntmps37
    go_wp2_with (go_at_call 52; refine (l2Figure_any _ _).mono ?_; rintro e w' ⟨rfl, hw⟩; subst w')
    go_ret
    exact ⟨lret_int (by omega), rfl⟩
end Go.Proofs.Ytkdilgmlabaehaa
