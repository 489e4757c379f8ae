/- Contracts for trees that are ok, of the specification: the names of a function. -/
import Derived.Test.YtcnhlkkbfdchnaaOkM
namespace Go.Proofs.Ytcnhlkkbfdchnaa
open Go.RowKit
def Fo.nameHead (F : Fo) (i : Nat) : Bool := decide (F.kindAt i = 6) && (Qm.name (F.textAt i) && (decide (F.manAt i = 0) && (decide (F.expAt i = 0) && decide ((F.kidsAt i).len = 0))))
/-- the first n are names, no two alike -/
def Fo.nmOk (F : Fo) : Nat → Bool
  | 0 => true
  | n + 1 => F.nmOk n && (F.nameHead n && F.newAt n n)
theorem Fo.nmOk_false {F : Fo} {i n : Nat} (h : (F.nameHead i && F.newAt i i) = false) (hi : i < n) : F.nmOk n = false := by
  induction n with
  | zero => omega
  | succ n ih =>
    show (F.nmOk n && (F.nameHead n && F.newAt n n)) = false
    rcases Nat.lt_succ_iff_lt_or_eq.1 hi with hi | rfl
    · rw [ih hi]; rfl
    · rw [h]; simp
set_option maxRecDepth 100000 in
set_option maxHeartbeats 3000000 in
theorem l3Names_any (F : Fo) (a : Option Addr) (c : Nat) (w : World) (hin : F.In w a) (hl : F.len ≤ c) (hm : c ≤ maxLen) :
    Calls Try.prog 40 #[.slice a F.len c] w fun e w' => e = .returned (.bool (F.nmOk (F.len - 1))) ∧ Below w.heap.size w w' := by
  unfold maxLen at hm
  have hcl : F.len ≤ 9223372036854775807 := by omega
  go_enter Try.func40, Try.ntmps40
  go_wp2_with fail
  go_loopw [3] (fun i wr => ∃ j : Nat, i = .int .i64 j ∧ F.nmOk j = true ∧ j ≤ F.len - 1 ∧ Below w.heap.size w wr) (fun i _ => F.len - (intOf i).toNat)
  case atStart => exact ⟨0, rfl, rfl, Nat.zero_le _, Below.refl _ _⟩
  case round =>
    obtain ⟨j, rfl, hd, hj, hb⟩ := hrel
    have HD : Hid (F.nmOk j = true) := hd
    clear hd
    by_cases hlt : j + 1 < F.len
    · have hlt' : (j : Int) + 1 < (F.len : Int) := by omega
      have hjl : (j : Int) < (F.len : Int) := by omega
      have hjn : j < F.len := by omega
      obtain ⟨b, o, rfl, hF⟩ : ∃ b o, a = some ⟨b, o, none⟩ ∧ F.From w b o := by
        rcases hin with rfl | h
        · exact absurd hlt (by show ¬ j + 1 < 0; omega)
        · exact h
      clear hin
      obtain ⟨⟨h1, h2, h3, h4, h5⟩, _, _, _, ht⟩ := Fo.from_at (Fo.from_grow hb F b o hF) hjn
      have HF : Hid ((F.nameHead j && F.newAt j j) = false → F.nmOk (F.len - 1) = false) := fun h => Fo.nmOk_false h (by omega)
      have HH : Hid (F.nameHead j = (decide (F.kindAt j = 6) && (Qm.name (F.textAt j) && (decide (F.manAt j = 0) && (decide (F.expAt j = 0) && decide ((F.kidsAt j).len = 0)))))) := rfl
      by_cases q1 : F.kindAt j = 6
      · rw [q1] at h1
        have HN := fun W => sNameOk_any (F.textAt j) W ht
        generalize hnm : Qm.name (F.textAt j) = nm at HN
        have HNm : Hid (Qm.name (F.textAt j) = nm) := hnm
        clear hnm
        cases nm
        · have HR : Hid (F.nmOk (F.len - 1) = false) := HF.out (by rw [HH.out, HNm.out]; simp)
          go_wp2_with fail
          refine (HN _).mono ?_
          rintro r w1 ⟨rfl, hb1⟩
          have hB1 := hb.trans (hb1.mono hb.size)
          go_wp2_with fail
          go_ret
          exact ⟨by rw [HR.out]; rfl, hB1⟩
        · go_wp2_with fail
          refine (HN _).mono ?_
          rintro r w1 ⟨rfl, hb1⟩
          have hB1 := hb.trans (hb1.mono hb.size)
          have hFr := Fo.from_grow hB1 F b o hF
          obtain ⟨⟨_, g2, g3, g4, g5⟩, _, _, _, _⟩ := Fo.from_at hFr hjn
          clear h1 h2 h3 h4 h5 HN hb1 hb
          by_cases q3 : F.manAt j = 0 ∧ F.expAt j = 0
          · rw [q3.1] at g3
            rw [q3.2] at g4
            by_cases q4 : (F.kidsAt j).len = 0
            · rw [q4] at g5
              go_wp2_with fail
              go_loopw [4] (fun i wr => ∃ q : Nat, i = .int .i64 q ∧ F.newAt j q = true ∧ q ≤ j ∧ Below w.heap.size w wr) (fun i _ => j - (intOf i).toNat)
              case atStart => exact ⟨0, rfl, rfl, Nat.zero_le _, hB1⟩
              case round =>
                obtain ⟨q, rfl, hq, hqj, hb2⟩ := hrel
                have HQ : Hid (F.newAt j q = true) := hq
                clear hq
                by_cases hq2 : q < j
                · have hq2' : (q : Int) < (j : Int) := by omega
                  have hqn : q < F.len := by omega
                  have hqn' : (q : Int) < (F.len : Int) := by omega
                  have hFr2 := Fo.from_grow hb2 F b o hF
                  obtain ⟨⟨_, u2, _⟩, _⟩ := Fo.from_at hFr2 hjn
                  obtain ⟨⟨_, v2, _⟩, _⟩ := Fo.from_at hFr2 hqn
                  cases htt : ((F.textAt q).toList == (F.textAt j).toList)
                  · have HS : Hid (F.newAt j (q + 1) = true) := by unfold Hid; show (F.newAt j q && !((F.textAt j).toList == (F.textAt q).toList)) = true; rw [HQ.out, BEq.comm, htt]; rfl
                    clear hFr2 HQ g2 g3 g4 g5 hFr
                    go_wp2_with fail
                    go_region
                    all_goals
                      go_wp2_with fail
                      go_round
                      case rel => exact ⟨q + 1, by go_num, HS.out, by omega, hb2.drew⟩
                      case measure => simp [intOf]; omega
                  · have HS : Hid (F.nmOk (F.len - 1) = false) := HF.out (by rw [Fo.newAt_false (by rw [BEq.comm]; exact htt) hq2]; simp)
                    clear hFr2 HQ g2 g3 g4 g5 hFr
                    go_wp2_with fail
                    go_region
                    all_goals
                      go_wp2_with fail
                      go_ret
                      exact ⟨by rw [HS.out]; rfl, hb2.drew⟩
                · have e : q = j := by omega
                  subst e
                  have HS : Hid (F.nmOk (q + 1) = true) := by unfold Hid; show (F.nmOk q && (F.nameHead q && F.newAt q q)) = true; rw [HD.out, HQ.out, HH.out, HNm.out, q1, q3.1, q3.2, q4]; rfl
                  clear HQ HD g2 g3 g4 g5 hFr
                  go_wp2_with fail
                  go_round
                  case rel => exact ⟨q + 1, by go_num, HS.out, by omega, hb2⟩
                  case measure => simp [intOf]; omega
            · have q4' : (((F.kidsAt j).len : Int) != 0) = true := by simp; omega
              have HR : Hid (F.nmOk (F.len - 1) = false) := HF.out (by rw [HH.out]; simp [q4])
              go_wp2_with fail
              go_ret
              exact ⟨by rw [HR.out]; rfl, hB1⟩
          · have HR : Hid (F.nmOk (F.len - 1) = false) := HF.out (by rw [HH.out]; by_cases z : F.manAt j = 0 <;> simp_all)
            by_cases z : F.manAt j = 0
            · have z2 : ¬ F.expAt j = 0 := fun h => q3 ⟨z, h⟩
              have z2' : (F.expAt j == 0) = false := by simp [z2]
              rw [z] at g3
              go_wp2_with fail
              all_goals
                go_ret
                exact ⟨by rw [HR.out]; rfl, hB1⟩
            · have z' : (F.manAt j == 0) = false := by simp [z]
              go_wp2_with fail
              all_goals
                go_ret
                exact ⟨by rw [HR.out]; rfl, hB1⟩
      · have q1' : (F.kindAt j != 6) = true := by simp [q1]
        have HR : Hid (F.nmOk (F.len - 1) = false) := HF.out (by rw [HH.out]; simp [q1])
        go_wp2_with fail
        go_ret
        exact ⟨by rw [HR.out]; rfl, hb⟩
    · have hlt' : ¬ (j : Int) + 1 < (F.len : Int) := by omega
      have e : j = F.len - 1 := by omega
      have HR : Hid (F.nmOk (F.len - 1) = true) := by unfold Hid; rw [← e]; exact HD.out
      go_wp2_with fail
      go_ret
      exact ⟨by rw [HR.out]; rfl, hb⟩
end Go.Proofs.Ytcnhlkkbfdchnaa
