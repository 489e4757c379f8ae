/- Contracts for trees that are ok: no two texts alike; the number. -/
import Derived.Test.YtcnhlkkbfdchnaaOkA
import Derived.Test.YtcnhlkkbfdchnaaDecA
namespace Go.Proofs.Ytcnhlkkbfdchnaa
open Go.RowKit

set_option maxHeartbeats 2000000 in
/-- whether of the first n of a list no two have one text -/
theorem distinct_any (F : Fo) (a : Option Addr) (n c : Nat) (w : World) (hin : F.In w a) (hn : n ≤ F.len) (hc : n ≤ c) (hm : c ≤ maxLen) :
    Calls Try.prog 77 #[.slice a n c] w fun e w' => e = .returned (.bool (F.dist n)) ∧ Below w.heap.size w w' := by
  unfold maxLen at hm
  go_enter Try.func77, Try.ntmps77
  go_wp2_with fail
  go_loopw [7] (fun i wr => ∃ j : Nat, i = .int .i64 j ∧ F.dist j = true ∧ j ≤ n ∧ Below w.heap.size w wr) (fun i _ => n - (intOf i).toNat)
  case atStart => exact ⟨0, rfl, rfl, Nat.zero_le _, Below.refl _ _⟩
  case round =>
    obtain ⟨j, rfl, hd, hj, hb⟩ := hrel
    have HD : Hid (F.dist j = true) := hd
    clear hd
    by_cases hlt : j < n
    · have hlt' : (j : Int) < (n : Int) := by omega
      obtain ⟨b, o, rfl, hF⟩ : ∃ b o, a = some ⟨b, o, none⟩ ∧ F.From w b o := by
        rcases hin with rfl | h
        · exact absurd hn (by show ¬ n ≤ 0; omega)
        · exact h
      clear hin
      go_wp2_with fail
      go_loopw [11] (fun i wr => ∃ q : Nat, i = .int .i64 q ∧ F.newAt j q = true ∧ q ≤ j ∧ Below w.heap.size w wr) (fun i _ => j - (intOf i).toNat)
      case atStart => exact ⟨0, rfl, rfl, Nat.zero_le _, hb⟩
      case round =>
        obtain ⟨q, rfl, hq, hqj, hb2⟩ := hrel
        have HQ : Hid (F.newAt j q = true) := hq
        clear hq
        by_cases hq2 : q < j
        · have hq2' : (q : Int) < (j : Int) := by omega
          have hqn : q < n := by omega
          have hqn' : (q : Int) < (n : Int) := by omega
          have hFr := Fo.from_grow hb2 F b o hF
          obtain ⟨⟨_, h2, _⟩, _⟩ := Fo.from_at hFr (show j < F.len by omega)
          obtain ⟨⟨_, g2, _⟩, _⟩ := Fo.from_at hFr (show q < F.len by omega)
          cases ht : ((F.textAt j).toList == (F.textAt q).toList)
          · have HS : Hid (F.newAt j (q + 1) = true) := by unfold Hid; show (F.newAt j q && !((F.textAt j).toList == (F.textAt q).toList)) = true; rw [HQ.out, ht]; rfl
            generalize F.textAt j = tj at *
            generalize F.textAt q = tq at *
            clear hFr HQ
            go_wp2_with fail
            go_region
            all_goals
              go_wp2_with fail
              go_round
              case rel => exact ⟨q + 1, by go_num, HS.out, by omega, hb2.drew⟩
              case measure => simp [intOf]; omega
          · have HS : Hid (F.dist n = false) := Fo.dist_false (Fo.newAt_false ht hq2) hlt
            generalize F.textAt j = tj at *
            generalize F.textAt q = tq at *
            clear hFr HQ
            go_wp2_with fail
            go_region
            all_goals
              go_wp2_with fail
              go_ret
              exact ⟨by rw [HS.out]; rfl, hb2.drew⟩
        · have e : q = j := by omega
          subst e
          have HS : Hid (F.dist (q + 1) = true) := by unfold Hid; show (F.dist q && F.newAt q q) = true; rw [HD.out, HQ.out]; rfl
          clear HQ HD
          go_wp2_with fail
          go_round
          case rel => exact ⟨q + 1, by go_num, HS.out, by omega, hb2⟩
          case measure => simp [intOf]; omega
    · have e : j = n := by omega
      subst e
      go_wp2_with fail
      go_ret
      exact ⟨by rw [HD.out]; rfl, hb⟩

set_option maxHeartbeats 2000000 in
theorem numFits_any (k : Int) (t : ByteArray) (m e : Int) (a : Option Addr) (n c : Nat) (w : World) :
    Calls Try.prog 48 #[nodeV k t m e a n c] w fun r w' => r = .returned (.bool (Om.num k m e)) ∧ Below w.heap.size w w' := by
  by_cases h4 : k = 4
  · subst h4
    have HN : Hid (Om.num 4 m e = (Dm.ok m e && decide (0 ≤ m))) := by unfold Hid Om.num; rw [if_pos rfl]
    rw [HN.out]
    clear HN
    cases hd : Dm.ok m e
    all_goals
      go_enter Try.func48, Try.ntmps48
      go_wp2_with fail
      refine (iDecOk_any m e _).mono ?_
      rintro r w1 ⟨rfl, hb1⟩
      rw [hd]
      have hB : Below w.heap.size w w1 := ((Below.refl _ w).alloc (Nat.le_refl _) _).trans (hb1.mono (by simp))
      have h2 : w1.cell? ⟨w.heap.size, 2, none⟩ = some (.int .i64 m) := (hb1.cell (p := ⟨w.heap.size, 2, none⟩) (by simp)).trans (by simp)
      clear hb1
      go_wp2_with fail
      go_ret
      exact ⟨lret_bool (by first | rfl | simp), hB⟩
  · have hk4 : (k == 4) = false := by simp [h4]
    by_cases h23 : k = 23
    · subst h23
      have HN : Hid (Om.num 23 m e = (decide (e = 0) && (decide (0 ≤ m) && decide (m ≤ 2)))) := by unfold Hid Om.num; rw [if_neg (by decide), if_pos rfl]
      rw [HN.out]
      clear HN
      by_cases g1 : e = 0
      · have g1' : (e == 0) = true := by simp [g1]
        by_cases g2 : 0 ≤ m
        · have g2' : decide (0 ≤ m) = true := by simp [g2]
          go_enter Try.func48, Try.ntmps48
          go_wp2_with fail
          go_ret
          exact ⟨lret_bool (by simp [g1, g2]), (Below.refl _ w).alloc (Nat.le_refl _) _⟩
        · have g2' : decide (0 ≤ m) = false := by simp [g2]
          go_enter Try.func48, Try.ntmps48
          go_wp2_with fail
          go_ret
          exact ⟨lret_bool (by first | rfl | simp), (Below.refl _ w).alloc (Nat.le_refl _) _⟩
      · have g1' : (e == 0) = false := by simp [g1]
        go_enter Try.func48, Try.ntmps48
        go_wp2_with fail
        go_ret
        exact ⟨lret_bool (by simp [g1]), (Below.refl _ w).alloc (Nat.le_refl _) _⟩
    · have hk23 : (k == 23) = false := by simp [h23]
      have HN : Hid (Om.num k m e = (decide (m = 0) && decide (e = 0))) := by unfold Hid Om.num; rw [if_neg h4, if_neg h23]
      rw [HN.out]
      clear HN
      go_enter Try.func48, Try.ntmps48
      go_wp2_with fail
      all_goals
        go_ret
        exact ⟨lret_bool (by simp_all), (Below.refl _ w).alloc (Nat.le_refl _) _⟩
end Go.Proofs.Ytcnhlkkbfdchnaa
