/- Contracts for trees that are ok, of the specification: the text of a node; a field. -/
import Derived.Test.YtcnhlkkbfdchnaaOkK
import Derived.Test.YtcnhlkkbfdchnaaOkD
namespace Go.Proofs.Ytcnhlkkbfdchnaa
open Go.RowKit
/-- the text is as its kind has it, by the specification -/
def sText (k : Int) (t : ByteArray) (n : Nat) : Bool := if k = 24 then decide (stdOr t.toList = (n : Int)) else if k = 23 then (t.toList == []) else Om.textOf (Om.sort k) t
set_option maxRecDepth 100000 in
set_option maxHeartbeats 2000000 in
theorem l3Text_any (k : Int) (t : ByteArray) (m e : Int) (a : Option Addr) (n c : Nat) (w : World) (ht : t.size ≤ maxLen) :
    Calls Try.prog 37 #[nodeV k t m e a n c] w fun r w' => r = .returned (.bool (sText k t n)) ∧ Below w.heap.size w w' := by
  have htt := ht
  unfold maxLen at htt
  have hB0 := (Below.refl _ w).alloc (Nat.le_refl _) (.cells #[.int .i64 k, .string t, .int .i64 m, .int .i64 e, .slice a n c] 32)
  by_cases h5 : k = 5
  · subst h5
    go_enter Try.func37, Try.ntmps37
    go_wp2_with fail
    go_ret
    exact ⟨lret_bool (by rw [Bool.eq_iff_iff]; simp [sText, Om.sort, Om.textOf]; omega), hB0⟩
  by_cases h6 : k = 6
  · subst h6
    go_enter Try.func37, Try.ntmps37
    go_wp2_with fail
    refine (sNameOk_any t _ ht).mono ?_
    rintro r w1 ⟨rfl, hb1⟩
    have hB1 := hB0.trans (hb1.mono hB0.size)
    go_wp2_with fail
    go_ret
    exact ⟨rfl, hB1⟩
  by_cases h8 : k = 8
  · subst h8
    go_enter Try.func37, Try.ntmps37
    go_wp2_with fail
    refine (sNameOk_any t _ ht).mono ?_
    rintro r w1 ⟨rfl, hb1⟩
    have hB1 := hB0.trans (hb1.mono hB0.size)
    go_wp2_with fail
    go_ret
    exact ⟨rfl, hB1⟩
  by_cases h18 : k = 18
  · subst h18
    go_enter Try.func37, Try.ntmps37
    go_wp2_with fail
    refine (sNameOk_any t _ ht).mono ?_
    rintro r w1 ⟨rfl, hb1⟩
    have hB1 := hB0.trans (hb1.mono hB0.size)
    go_wp2_with fail
    go_ret
    exact ⟨rfl, hB1⟩
  by_cases h15 : k = 15
  · subst h15
    go_enter Try.func37, Try.ntmps37
    go_wp2_with fail
    refine (sNameOk_any t _ ht).mono ?_
    rintro r w1 ⟨rfl, hb1⟩
    have hB1 := hB0.trans (hb1.mono hB0.size)
    go_wp2_with fail
    go_ret
    exact ⟨rfl, hB1⟩
  by_cases h21 : k = 21
  · subst h21
    go_enter Try.func37, Try.ntmps37
    go_wp2_with fail
    refine (sNameOk_any t _ ht).mono ?_
    rintro r w1 ⟨rfl, hb1⟩
    have hB1 := hB0.trans (hb1.mono hB0.size)
    go_wp2_with fail
    go_ret
    exact ⟨rfl, hB1⟩
  by_cases h9 : k = 9
  · subst h9
    go_enter Try.func37, Try.ntmps37
    go_wp2_with fail
    refine (sNameOk_any t _ ht).mono ?_
    rintro r w1 ⟨rfl, hb1⟩
    have hB1 := hB0.trans (hb1.mono hB0.size)
    go_wp2_with fail
    go_ret
    exact ⟨rfl, hB1⟩
  by_cases h13 : k = 13
  · subst h13
    go_enter Try.func37, Try.ntmps37
    go_wp2_with fail
    refine (l3Level_any t _).mono ?_
    rintro r w1 ⟨⟨z, rfl, hz⟩, hb1⟩
    have HZ : Hid (decide (0 ≤ z) = Qm.has Om.signs t.toList) := hz
    clear hz
    have hB1 := hB0.trans (hb1.mono hB0.size)
    go_wp2_with fail
    go_ret
    exact ⟨lret_bool HZ.out, hB1⟩
  by_cases h24 : k = 24
  · subst h24
    have hS := l3Std_any t
    have hst : -1 ≤ stdOr t.toList ∧ stdOr t.toList ≤ 3 := by have := Om.std_le t.toList; unfold stdOr; split <;> omega
    have HX : Hid (sText 24 t n = decide (stdOr t.toList = (n : Int))) := rfl
    rw [HX.out]
    generalize stdOr t.toList = z at *
    have A0 := box4 w 24 t m e (.slice a n c) 32
    have A1 := box1 w 24 t m e (.slice a n c) 32
    go_enter Try.func37, Try.ntmps37
    go_wp2_with fail
    generalize w.alloc (.cells #[.int .i64 24, .string t, .int .i64 m, .int .i64 e, .slice a n c] 32) = W0 at *
    go_quiet ((go_at_call 66; exact Calls.quiet_of_same (hS _)))
    go_wp2_with fail
    go_ret
    exact ⟨lret_bool (by rw [Bool.eq_iff_iff]; simp), below_drewN hB0 _⟩
  have g5 : (k == 5) = false := by simp [h5]
  have g6 : (k == 6) = false := by simp [h6]
  have g8 : (k == 8) = false := by simp [h8]
  have g18 : (k == 18) = false := by simp [h18]
  have g15 : (k == 15) = false := by simp [h15]
  have g21 : (k == 21) = false := by simp [h21]
  have g9 : (k == 9) = false := by simp [h9]
  have g13 : (k == 13) = false := by simp [h13]
  have g24 : (k == 24) = false := by simp [h24]
  have HX : Hid (sText k t n = (t.toList == [])) := by
    unfold Hid sText
    rw [if_neg h24]
    by_cases h23 : k = 23
    · rw [if_pos h23]
    · rw [if_neg h23]
      have : Om.sort k = 0 := by unfold Om.sort; simp [h5, h6, h8, h18, h15, h21, h9, h13, h24, h23]
      rw [this]; rfl
  rw [HX.out]
  go_enter Try.func37, Try.ntmps37
  go_wp2_with fail
  go_ret
  exact ⟨lret_bool (by first | rfl | (rw [Bool.eq_iff_iff]; simp)), hB0⟩
end Go.Proofs.Ytcnhlkkbfdchnaa
