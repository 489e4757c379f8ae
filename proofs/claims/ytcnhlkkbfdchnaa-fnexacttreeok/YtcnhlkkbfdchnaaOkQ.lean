/- Contracts for trees that are ok, of the specification: a tree. -/
import Derived.Test.YtcnhlkkbfdchnaaOkP
namespace Go.Proofs.Ytcnhlkkbfdchnaa
open Go.RowKit
/-- what is asked of a tree ahead of its number and of what is below -/
def headOf (k : Int) (t : ByteArray) (n : Nat) : Bool := (decide (1 ≤ k) && decide (k ≤ 24)) && (!decide (k = 23) && ((decide ((Om.low k : Int) ≤ (n : Int)) && decide ((n : Int) ≤ (Om.high k : Int))) && sText k t n))
theorem okOne_not {k : Int} {t : ByteArray} {m e : Int} {F : Fo} (h : headOf k t F.len = false) : okOne k t m e F = false := by
  show (headOf k t F.len && _) = false
  rw [h]; rfl
theorem okOne_head {k : Int} {t : ByteArray} {m e : Int} {F : Fo} (h : headOf k t F.len = true) : okOne k t m e F = (if k = 4 then Dm.ok m e && decide (0 ≤ m) else (decide (m = 0) && decide (e = 0)) && kidsOf k F (fun i => (F.okp i).1) (fun i => (F.okp i).2)) := by
  show (headOf k t F.len && _) = _
  rw [h]; rfl
theorem allN_none (p : Nat → Bool) (fr : Nat) : ∀ n, n ≤ fr → allN p fr n = true := by
  intro n
  induction n with
  | zero => intro _; rfl
  | succ n ih => intro h; show (allN p fr n && (decide (n < fr) || p n)) = true; rw [ih (by omega), decide_eq_true (show n < fr by omega)]; rfl
set_option maxRecDepth 100000 in
set_option maxHeartbeats 3000000 in
theorem l3Ok_step (N : Nat) (H : OkBelow N) (HFs : FieldsBelow N) :
    ∀ (k : Int) (t : ByteArray) (m e : Int) (a : Option Addr) (c : Nat) (F : Fo) (w : World), F.size ≤ N → F.In w a → F.len ≤ c → c ≤ maxLen → t.size ≤ maxLen →
      Calls Try.prog 21 #[nodeV k t m e a F.len c] w fun r w' => r = .returned (.bool (okOne k t m e F)) ∧ Below w.heap.size w w' := by
  intro k t m e a c F w hN hin hl hm ht
  have hmm := hm
  unfold maxLen at hmm
  have hB0 := (Below.refl _ w).alloc (Nat.le_refl _) (.cells #[.int .i64 k, .string t, .int .i64 m, .int .i64 e, .slice a F.len c] 32)
  have a0 : (w.alloc (.cells #[.int .i64 k, .string t, .int .i64 m, .int .i64 e, .slice a F.len c] 32)).cell? ⟨w.heap.size, 0, none⟩ = some (.int .i64 k) := by simp
  have a2 : (w.alloc (.cells #[.int .i64 k, .string t, .int .i64 m, .int .i64 e, .slice a F.len c] 32)).cell? ⟨w.heap.size, 2, none⟩ = some (.int .i64 m) := by simp
  have a3 : (w.alloc (.cells #[.int .i64 k, .string t, .int .i64 m, .int .i64 e, .slice a F.len c] 32)).cell? ⟨w.heap.size, 3, none⟩ = some (.int .i64 e) := by simp
  have a4 := box4 w k t m e (.slice a F.len c) 32
  have hlo : Om.low k ≤ 3 := by unfold Om.low; (repeat' split) <;> omega
  have hhi : Om.high k ≤ 8 := by unfold Om.high; (repeat' split) <;> omega
  have HH : Hid (headOf k t F.len = ((decide (1 ≤ k) && decide (k ≤ 24)) && (!decide (k = 23) && ((decide ((Om.low k : Int) ≤ (F.len : Int)) && decide ((F.len : Int) ≤ (Om.high k : Int))) && sText k t F.len)))) := rfl
  have HL : Hid (1 ≤ Om.low 16) := by unfold Hid; decide
  have HLk : Hid (k = 16 → 1 ≤ Om.low k) := by rintro rfl; exact HL.out
  clear HL
  have HC := l3Count_any k
  have HT := fun W => l3Text_any k t m e a F.len c W ht
  generalize Om.low k = lo at *
  generalize Om.high k = hi at *
  generalize sText k t F.len = tx at *
  go_enter Try.func21, Try.ntmps21
  go_wp2_with fail
  refine (HC _).mono ?_
  rintro r w0 ⟨rfl, rfl⟩
  go_wp2_with fail
  refine (l1In_any k 1 24 _).mono ?_
  rintro r w0 ⟨rfl, rfl⟩
  by_cases h1 : 1 ≤ k ∧ k ≤ 24
  · have g1 : (decide (1 ≤ k) && decide (k ≤ 24)) = true := by simp [h1.1, h1.2]
    rw [g1]
    by_cases h23 : k = 23
    · subst h23
      have HR : Hid (okOne 23 t m e F = false) := okOne_not (by rw [HH.out]; simp)
      go_wp2_with fail
      go_ret
      exact ⟨by rw [HR.out]; rfl, hB0⟩
    have g23 : (k == 23) = false := by simp [h23]
    go_wp2_with fail
    refine (l1In_any F.len lo hi _).mono ?_
    rintro r w0 ⟨rfl, rfl⟩
    by_cases h2 : (lo : Int) ≤ (F.len : Int) ∧ (F.len : Int) ≤ (hi : Int)
    · have g2 : (decide ((lo : Int) ≤ (F.len : Int)) && decide ((F.len : Int) ≤ (hi : Int))) = true := by simp; omega
      rw [g2]
      go_wp2_with fail
      refine (HT _).mono ?_
      rintro r w1 ⟨rfl, hb1⟩
      have hB1 := hB0.trans (hb1.mono hB0.size)
      have c0 := (hb1.cell (p := ⟨w.heap.size, 0, none⟩) (by simp)).trans a0
      have c2 := (hb1.cell (p := ⟨w.heap.size, 2, none⟩) (by simp)).trans a2
      have c3 := (hb1.cell (p := ⟨w.heap.size, 3, none⟩) (by simp)).trans a3
      have c4 := (hb1.cell (p := ⟨w.heap.size, 4, none⟩) (by simp)).trans a4
      clear a0 a2 a3 a4 hb1 hB0 HT HC
      cases tx
      · have HR : Hid (okOne k t m e F = false) := okOne_not (by rw [HH.out]; simp)
        go_wp2_with fail
        go_ret
        exact ⟨by rw [HR.out]; rfl, hB1⟩
      have HE : Hid (okOne k t m e F = (if k = 4 then Dm.ok m e && decide (0 ≤ m) else (decide (m = 0) && decide (e = 0)) && kidsOf k F (fun i => (F.okp i).1) (fun i => (F.okp i).2))) := okOne_head (by rw [HH.out, g1, g2]; simp [h23])
      clear HH
      by_cases h4 : k = 4
      · subst h4
        have HE' : Hid (okOne 4 t m e F = (Dm.ok m e && decide (0 ≤ m))) := HE.out
        clear HE
        have HQ := fun W => sDecOk_any m e W
        generalize hdk : Dm.ok m e = dk at HE' HQ
        clear hdk
        go_wp2_with fail
        refine (HQ _).mono ?_
        rintro r w2 ⟨rfl, hb2⟩
        have hB2 := hB1.trans (hb2.mono hB1.size)
        have d2 := (hb2.cell (p := ⟨w.heap.size, 2, none⟩) (World.block_lt_of_cell? _ _ c2)).trans c2
        clear c0 c2 c3 c4 hb2
        cases dk
        · go_wp2_with fail
          go_ret
          exact ⟨lret_bool (by rw [HE'.out]; rfl), hB2⟩
        · go_wp2_with fail
          go_ret
          exact ⟨lret_bool (by rw [HE'.out]; first | rfl | simp), hB2⟩
      have g4 : (k == 4) = false := by simp [h4]
      by_cases hz : m = 0 ∧ e = 0
      · obtain ⟨rfl, rfl⟩ := hz
        have HE' : Hid (okOne k t 0 0 F = kidsOf k F (fun i => (F.okp i).1) (fun i => (F.okp i).2)) := by unfold Hid; rw [HE.out, if_neg h4]; rfl
        clear HE
        by_cases h22 : k = 22
        · subst h22
          have HE : Hid (okOne 22 t 0 0 F = F.fldN (fun i => (F.okp i).2) F.len) := HE'.out
          have HG := HFs a c F
          rw [← HE.out] at HG
          go_wp2_with fail
          refine (HG _ hN (hin.grow hB1) hl hm).mono ?_
          rintro r w2 ⟨rfl, hb2⟩
          have hB2 := hB1.trans (hb2.mono hB1.size)
          go_wp2_with fail
          go_ret
          exact ⟨rfl, hB2⟩
        have g22 : (k == 22) = false := by simp [h22]
        by_cases h16 : k = 16
        · subst h16
          have HE : Hid (okOne 16 t 0 0 F = (F.nmOk (F.len - 1) && allN (fun i => (F.okp i).1) (F.len - 1) F.len)) := HE'.out
          clear HE'
          have hl1 : 1 ≤ F.len := by have := HLk.out rfl; omega
          have HG := fun W hW => l3Names_any F a c W hW hl hm
          go_wp2_with fail
          refine (HG _ (hin.grow hB1)).mono ?_
          rintro r w2 ⟨rfl, hb2⟩
          have hB2 := hB1.trans (hb2.mono hB1.size)
          have d4 := (hb2.cell (p := ⟨w.heap.size, 4, none⟩) (World.block_lt_of_cell? _ _ c4)).trans c4
          clear c0 c2 c3 c4 hb2 HG
          generalize hnm : F.nmOk (F.len - 1) = nm at HE
          clear hnm
          cases nm
          · have HR : Hid (okOne 16 t 0 0 F = false) := HE.out
            go_wp2_with fail
            go_ret
            exact ⟨by rw [HR.out]; rfl, hB2⟩
          · obtain ⟨fr, hfr⟩ : ∃ fr : Nat, F.len - 1 = fr := ⟨_, rfl⟩
            have hfr' : (F.len : Int) - 1 = (fr : Int) := by omega
            rw [hfr] at HE
            have hA : allN (fun i => (F.okp i).1) fr fr = true := allN_none _ _ _ (Nat.le_refl _)
            have HA : Hid (allN (fun i => (F.okp i).1) fr fr = true) := hA
            clear hA
            go_wp2_with fail
            go_loopw [6] (fun i wr => ∃ j : Nat, i = .int .i64 j ∧ allN (fun i => (F.okp i).1) fr j = true ∧ fr ≤ j ∧ j ≤ F.len ∧ wr.cell? ⟨w.heap.size, 4, none⟩ = some (.slice a F.len c) ∧ Below w.heap.size w wr) (fun i _ => F.len - (intOf i).toNat)
            case atStart => exact ⟨fr, by go_num, HA.out, Nat.le_refl _, by omega, d4, hB2⟩
            case round =>
              obtain ⟨j, rfl, hd, hfj, hj, hc4, hb⟩ := hrel
              have HD : Hid (allN (fun i => (F.okp i).1) fr j = true) := hd
              clear hd
              by_cases hjn : j < F.len
              · have hjl : (j : Int) < (F.len : Int) := by omega
                obtain ⟨b, o, rfl, hF⟩ := Fo.from_of_len hin hjn
                obtain ⟨⟨u1, u2, u3, u4, u5⟩, uk, ukc, ucm, ut⟩ := Fo.from_at (Fo.from_grow hb F b o hF) hjn
                have hsz := Fo.size_at hjn
                have HP : Hid ((F.okp j).1 = okOne (F.kindAt j) (F.textAt j) (F.manAt j) (F.expAt j) (F.kidsAt j)) := Fo.okp1 hjn
                have HC := fun W hW => H (F.kindAt j) (F.textAt j) (F.manAt j) (F.expAt j) (F.addrAt j) (F.capAt j) (F.kidsAt j) W (by omega) hW ukc ucm ut
                rw [← HP.out] at HC
                clear HP H HFs hin hF
                go_wp2_with fail
                refine (HC _ uk).mono ?_
                rintro r w4 ⟨rfl, hb4⟩
                have hB4 := hb.trans (hb4.mono hb.size)
                have hc4' := (hb4.cell (p := ⟨w.heap.size, 4, none⟩) (World.block_lt_of_cell? _ _ hc4)).trans hc4
                clear hb4 hb hc4 u1 u2 u3 u4 u5 uk HC
                generalize hok : (F.okp j).1 = ok
                have HOK : Hid ((F.okp j).1 = ok) := hok
                clear hok
                cases ok
                · have HR : Hid (okOne 16 t 0 0 F = false) := by unfold Hid; rw [HE.out, allN_false (p := fun i => (F.okp i).1) HOK.out hfj hjn]; rfl
                  go_wp2_with fail
                  go_ret
                  exact ⟨by rw [HR.out]; rfl, hB4⟩
                · have HS : Hid (allN (fun i => (F.okp i).1) fr (j + 1) = true) := by unfold Hid; show (allN (fun i => (F.okp i).1) fr j && (decide (j < fr) || (F.okp j).1)) = true; rw [HD.out, HOK.out]; simp
                  clear HD HOK
                  go_wp2_with fail
                  go_round
                  case rel => exact ⟨j + 1, by go_num, HS.out, by omega, by omega, hc4', hB4⟩
                  case measure => simp [intOf]; omega
              · have hjl : ¬ (j : Int) < (F.len : Int) := by omega
                have e : j = F.len := by omega
                have HR : Hid (okOne 16 t 0 0 F = true) := by unfold Hid; rw [HE.out, ← e, HD.out]; rfl
                go_wp2_with fail
                go_ret
                exact ⟨by rw [HR.out]; rfl, hb⟩
        · have HE : Hid (okOne k t 0 0 F = allN (fun i => (F.okp i).1) 0 F.len) := by unfold Hid; rw [HE'.out]; unfold kidsOf; rw [if_neg h22, if_neg h16]
          clear HE'
          have g16 : (k == 16) = false := by simp [h16]
          go_wp2_with fail
          go_loopw [6] (fun i wr => ∃ j : Nat, i = .int .i64 j ∧ allN (fun i => (F.okp i).1) 0 j = true ∧ 0 ≤ j ∧ j ≤ F.len ∧ wr.cell? ⟨w.heap.size, 4, none⟩ = some (.slice a F.len c) ∧ Below w.heap.size w wr) (fun i _ => F.len - (intOf i).toNat)
          case atStart => exact ⟨0, rfl, rfl, Nat.le_refl _, by omega, c4, hB1⟩
          case round =>
            obtain ⟨j, rfl, hd, hfj, hj, hc4, hb⟩ := hrel
            have HD : Hid (allN (fun i => (F.okp i).1) 0 j = true) := hd
            clear hd
            by_cases hjn : j < F.len
            · have hjl : (j : Int) < (F.len : Int) := by omega
              obtain ⟨b, o, rfl, hF⟩ := Fo.from_of_len hin hjn
              obtain ⟨⟨u1, u2, u3, u4, u5⟩, uk, ukc, ucm, ut⟩ := Fo.from_at (Fo.from_grow hb F b o hF) hjn
              have hsz := Fo.size_at hjn
              have HP : Hid ((F.okp j).1 = okOne (F.kindAt j) (F.textAt j) (F.manAt j) (F.expAt j) (F.kidsAt j)) := Fo.okp1 hjn
              have HC := fun W hW => H (F.kindAt j) (F.textAt j) (F.manAt j) (F.expAt j) (F.addrAt j) (F.capAt j) (F.kidsAt j) W (by omega) hW ukc ucm ut
              rw [← HP.out] at HC
              clear HP H HFs hin hF
              go_wp2_with fail
              refine (HC _ uk).mono ?_
              rintro r w4 ⟨rfl, hb4⟩
              have hB4 := hb.trans (hb4.mono hb.size)
              have hc4' := (hb4.cell (p := ⟨w.heap.size, 4, none⟩) (World.block_lt_of_cell? _ _ hc4)).trans hc4
              clear hb4 hb hc4 u1 u2 u3 u4 u5 uk HC
              generalize hok : (F.okp j).1 = ok
              have HOK : Hid ((F.okp j).1 = ok) := hok
              clear hok
              cases ok
              · have HR : Hid (okOne k t 0 0 F = false) := by unfold Hid; rw [HE.out, allN_false (p := fun i => (F.okp i).1) HOK.out hfj hjn]
                go_wp2_with fail
                go_ret
                exact ⟨by rw [HR.out]; rfl, hB4⟩
              · have HS : Hid (allN (fun i => (F.okp i).1) 0 (j + 1) = true) := by unfold Hid; show (allN (fun i => (F.okp i).1) 0 j && (decide (j < 0) || (F.okp j).1)) = true; rw [HD.out, HOK.out]; simp
                clear HD HOK
                go_wp2_with fail
                go_round
                case rel => exact ⟨j + 1, by go_num, HS.out, by omega, by omega, hc4', hB4⟩
                case measure => simp [intOf]; omega
            · have hjl : ¬ (j : Int) < (F.len : Int) := by omega
              have e : j = F.len := by omega
              have HR : Hid (okOne k t 0 0 F = true) := by unfold Hid; rw [HE.out, ← e, HD.out]
              go_wp2_with fail
              go_ret
              exact ⟨by rw [HR.out]; rfl, hb⟩
      · have HR : Hid (okOne k t m e F = false) := by
          unfold Hid; rw [HE.out, if_neg h4]
          by_cases z : m = 0 <;> simp_all
        by_cases z : m = 0
        · have z2 : ¬ e = 0 := fun h => hz ⟨z, h⟩
          have z2' : (e == 0) = false := by simp [z2]
          subst z
          go_wp2_with fail
          all_goals
            go_ret
            exact ⟨by rw [HR.out]; rfl, hB1⟩
        · have z' : (m == 0) = false := by simp [z]
          go_wp2_with fail
          all_goals
            go_ret
            exact ⟨by rw [HR.out]; rfl, hB1⟩
    · have g2 : (decide ((lo : Int) ≤ (F.len : Int)) && decide ((F.len : Int) ≤ (hi : Int))) = false := by rw [← Bool.decide_and]; exact decide_eq_false h2
      have HR : Hid (okOne k t m e F = false) := okOne_not (by rw [HH.out, g2]; simp)
      rw [g2]
      go_wp2_with fail
      go_ret
      exact ⟨by rw [HR.out]; rfl, hB0⟩
  · have g1 : (decide (1 ≤ k) && decide (k ≤ 24)) = false := by rw [← Bool.decide_and]; exact decide_eq_false h1
    have HR : Hid (okOne k t m e F = false) := okOne_not (by rw [HH.out, g1]; simp)
    rw [g1]
    go_wp2_with fail
    go_ret
    exact ⟨by rw [HR.out]; rfl, hB0⟩
theorem l3Ok_all (N : Nat) : OkBelow N := by
  induction N with
  | zero => intro k t m e a c F w hF; omega
  | succ N ih => exact fun k t m e a c F w hF => l3Ok_step N ih (l3Fields_step N ih) k t m e a c F w (by omega)
end Go.Proofs.Ytcnhlkkbfdchnaa
