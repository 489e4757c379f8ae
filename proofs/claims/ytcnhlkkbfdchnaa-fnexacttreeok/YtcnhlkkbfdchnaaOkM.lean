/- Contracts for trees that are ok, of the specification: a field. -/
import Derived.Test.YtcnhlkkbfdchnaaOkL
namespace Go.Proofs.Ytcnhlkkbfdchnaa
open Go.RowKit
/-- a field, but for what it is -/
def sField (k : Int) (t : ByteArray) (m e : Int) (n : Nat) : Bool := decide (k = 23) && (Qm.name t && (decide (n = 1) && (decide (e = 0) && (decide (0 ≤ m) && decide (m ≤ 2)))))
set_option maxRecDepth 100000 in
set_option maxHeartbeats 2000000 in
theorem l3Field_any (k : Int) (t : ByteArray) (m e : Int) (a : Option Addr) (n c : Nat) (w : World) (ht : t.size ≤ maxLen) :
    Calls Try.prog 67 #[nodeV k t m e a n c] w fun r w' => r = .returned (.bool (sField k t m e n)) ∧ Below w.heap.size w w' := by
  have hB0 := (Below.refl _ w).alloc (Nat.le_refl _) (.cells #[.int .i64 k, .string t, .int .i64 m, .int .i64 e, .slice a n c] 32)
  have a2 : (w.alloc (.cells #[.int .i64 k, .string t, .int .i64 m, .int .i64 e, .slice a n c] 32)).cell? ⟨w.heap.size, 2, none⟩ = some (.int .i64 m) := by simp
  have a3 : (w.alloc (.cells #[.int .i64 k, .string t, .int .i64 m, .int .i64 e, .slice a n c] 32)).cell? ⟨w.heap.size, 3, none⟩ = some (.int .i64 e) := by simp
  have a4 : (w.alloc (.cells #[.int .i64 k, .string t, .int .i64 m, .int .i64 e, .slice a n c] 32)).cell? ⟨w.heap.size, 4, none⟩ = some (.slice a n c) := by simp
  by_cases h23 : k = 23
  · subst h23
    have HS : Hid (sField 23 t m e n = (Qm.name t && (decide (n = 1) && (decide (e = 0) && (decide (0 ≤ m) && decide (m ≤ 2)))))) := by unfold Hid sField; simp
    rw [HS.out]
    clear HS
    go_enter Try.func67, Try.ntmps67
    go_wp2_with fail
    refine (sNameOk_any t _ ht).mono ?_
    rintro r w1 ⟨rfl, hb1⟩
    have hB1 := hB0.trans (hb1.mono hB0.size)
    have c2 := (hb1.cell (p := ⟨w.heap.size, 2, none⟩) (by simp)).trans a2
    have c3 := (hb1.cell (p := ⟨w.heap.size, 3, none⟩) (by simp)).trans a3
    have c4 := (hb1.cell (p := ⟨w.heap.size, 4, none⟩) (by simp)).trans a4
    clear a2 a3 a4 hb1
    generalize hnm : Qm.name t = nm
    have HN : Hid (Qm.name t = nm) := hnm
    clear hnm
    cases nm
    · go_wp2_with fail
      go_ret
      exact ⟨lret_bool (by first | rfl | (rw [HN.out]; done) | (rw [HN.out]; rfl)), hB1⟩
    · by_cases h1 : n = 1
      · subst h1
        by_cases he : e = 0
        · subst he
          by_cases m0 : m = 0
          · subst m0
            go_wp2_with fail
            go_ret
            exact ⟨lret_bool (by first | rfl | (rw [HN.out]; done) | (rw [HN.out]; rfl)), hB1⟩
          · have m0' : (m == 0) = false := by simp [m0]
            by_cases m1 : m = 1
            · subst m1
              go_wp2_with fail
              go_ret
              exact ⟨lret_bool (by first | rfl | (rw [HN.out]; done) | (rw [HN.out]; rfl)), hB1⟩
            · have m1' : (m == 1) = false := by simp [m1]
              by_cases m2 : m = 2
              · subst m2
                go_wp2_with fail
                go_ret
                exact ⟨lret_bool (by first | rfl | (rw [HN.out]; done) | (rw [HN.out]; rfl)), hB1⟩
              · have m2' : (m == 2) = false := by simp [m2]
                have hx : (decide (0 ≤ m) && decide (m ≤ 2)) = false := by rw [← Bool.decide_and]; exact decide_eq_false (by omega)
                have HQ : Hid ((decide (0 ≤ m) && decide (m ≤ 2)) = false) := hx
                clear hx
                go_wp2_with fail
                go_ret
                exact ⟨lret_bool (by first | rfl | (rw [HN.out, HQ.out]; done) | (rw [HN.out, HQ.out]; rfl)), hB1⟩
        · have he' : (e == 0) = false := by simp [he]
          have HQ : Hid (decide (e = 0) = false) := by unfold Hid; simp [he]
          go_wp2_with fail
          all_goals
            go_ret
            exact ⟨lret_bool (by first | rfl | (rw [HN.out, HQ.out]; done) | (rw [HN.out, HQ.out]; rfl)), hB1⟩
      · have h1' : ((n : Int) == 1) = false := by simp; omega
        have HQ : Hid (decide (n = 1) = false) := by unfold Hid; simp [h1]
        go_wp2_with fail
        go_ret
        exact ⟨lret_bool (by first | rfl | (rw [HN.out, HQ.out]; done) | (rw [HN.out, HQ.out]; rfl)), hB1⟩
  · have g : (k == 23) = false := by simp [h23]
    have HS : Hid (sField k t m e n = false) := by unfold Hid sField; simp [h23]
    rw [HS.out]
    go_enter Try.func67, Try.ntmps67
    go_wp2_with fail
    go_ret
    exact ⟨lret_bool rfl, hB0⟩
end Go.Proofs.Ytcnhlkkbfdchnaa
