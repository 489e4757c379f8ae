/- Contracts: l1Read, DecRead of the specification. -/
import Derived.Test.YtldlfmehplemiaaReadA
namespace Go.Proofs.Ytldlfmehplemiaa
open Go.RowKit

theorem lead_eq (W : ByteArray) : Rm.lead W.data.toList = (decide (1 < W.size) && decide (W.data.toList.getD 0 0 = 48)) := by rw [Rm.lead, Qm.len_eq]
theorem head_get (W : ByteArray) (h : 0 < W.size) : W.data.toList.getD 0 0 = W[0] := by
  rw [List.getD_eq_getElem?_getD, List.getElem?_eq_getElem (by rw [Qm.len_eq]; omega)]; rfl
theorem ne_intR {b c : UInt8} (h : b ≠ c) : ((b.toNat : Int) == (c.toNat : Int)) = false := by
  rw [beq_eq_false_iff_ne]; intro e; exact h (UInt8.toNat_inj.1 (by omega))
theorem eq_intR {b c : UInt8} (h : b = c) : ((b.toNat : Int) == (c.toNat : Int)) = true := by rw [h]; simp
theorem two_nofig {W P : ByteArray} (h : Rm.figs W.data.toList = false) : Rm.two W.data.toList P.data.toList = (0, 0, false) := by rw [Rm.two, h]; rfl
theorem two_lead {W P : ByteArray} (h1 : 1 < W.size) (h2 : W[0] = 48) : Rm.two W.data.toList P.data.toList = (0, 0, false) := by
  have : Rm.lead W.data.toList = true := by rw [lead_eq, head_get W (by omega), h2]; simpa using h1
  rw [Rm.two, this]; simp
theorem two_long {W P : ByteArray} (h : ¬ W.size + P.size ≤ 17) : Rm.two W.data.toList P.data.toList = (0, 0, false) := by
  have : decide (W.data.toList.length + P.data.toList.length ≤ 17) = false := by rw [Qm.len_eq, Qm.len_eq]; simpa using h
  rw [Rm.two, this]; simp
theorem two_fit {W P : ByteArray} (h : Rm.figs W.data.toList = true) (h1 : ¬ 1 < W.size ∨ W.data.toList.getD 0 0 ≠ 48) (h2 : W.size + P.size ≤ 17) : Rm.two W.data.toList P.data.toList = Dm.norm (Rm.whole (W.data.toList ++ P.data.toList)) (-(P.size : Int)) := by
  have e1 : Rm.lead W.data.toList = false := by
    rw [lead_eq]
    rcases h1 with h1 | h1
    · simp; omega
    · rw [decide_eq_false h1, Bool.and_false]
  have e2 : decide (W.data.toList.length + P.data.toList.length ≤ 17) = true := by rw [Qm.len_eq, Qm.len_eq]; simpa using h2
  rw [Rm.two, h, e1, e2, Qm.len_eq]; rfl
theorem app_list (W P : ByteArray) : (W ++ P).data.toList = W.data.toList ++ P.data.toList := by simp [ByteArray.data_append]
theorem app_size (W P : ByteArray) : (W ++ P).size = W.size + P.size := ByteArray.size_append

set_option maxHeartbeats 4000000 in
theorem l1Read_any (s : ByteArray) (w : World) (hs : s.size ≤ 10000000) :
    Calls Try.prog 28 #[.string s] w fun e w' => e = dec3 (Rm.uread s.data.toList) ∧ Below w.heap.size w w' := by
  go_enter Try.func28, Try.ntmps28
  go_wp2_with fail
  go_loop [4, 5, 6] (fun a b i => ∃ k : Nat, k ≤ s.size ∧ a = .string s ∧ b = .string ⟨#[]⟩ ∧ i = .int .i64 k ∧ Rm.Past s.data.toList k) (fun _ _ i => s.size - (intOf i).toNat)
  case atStart => exact ⟨0, Nat.zero_le _, rfl, rfl, rfl, Rm.Past.zero _⟩
  case round =>
    obtain ⟨k, hk, rfl, rfl, rfl, hp⟩ := hrel
    have HP : Hid (Rm.Past s.data.toList k) := hp
    clear hp
    by_cases hlt : k < s.size
    · by_cases hc : s[k] = 46
      · have hc' : ((s[k].toNat : Int) == 46) = true := eq_intR hc
        have hsp : Rm.sp s.data.toList = (s.data.toList.take k, some (s.data.toList.drop (k + 1))) := HP.out.stop (by rw [Qm.len_eq]; exact hlt) hc
        have W1 := ext_head s k
        have P1 := ext_end s (k + 1)
        have Ws : (s.extract 0 k).size = k := by rw [← Qm.len_eq, W1, List.length_take, Qm.len_eq]; omega
        have Ps : (s.extract (k + 1) s.size).size = s.size - (k + 1) := by rw [← Qm.len_eq, P1, List.length_drop, Qm.len_eq]
        have R0 : Hid (Rm.uread s.data.toList = if Rm.figs (s.extract (k + 1) s.size).data.toList = true then Rm.two (s.extract 0 k).data.toList (s.extract (k + 1) s.size).data.toList else (0, 0, false)) := by
          unfold Hid Rm.uread; rw [hsp, W1, P1]
        clear W1 P1 hsp hc
        have k1 : (k : Int) ≤ s.size := by omega
        have k2 : (k : Int) + 1 ≤ s.size := by omega
        go_wp2_with fail
        generalize s.extract (k + 1) s.size = P at *
        generalize s.extract 0 k = W at *
        have hWP : W.size + P.size ≤ 10000000 := by omega
        clear Ws Ps
        refine (l1Figures_any P _ (by omega)).mono ?_
        rintro e w' ⟨rfl, hw⟩
        subst w'
        cases hfP : Rm.figs P.data.toList
        · have R : Hid (Rm.uread s.data.toList = (0, 0, false)) := by unfold Hid; rw [R0.out, hfP]; rfl
          go_wp2_with fail
          exact bodyPost_ret (v := .tuple #[.agg #[.int .i64 0, .int .i64 0], .bool false]) (by simp [results, Try.results28, go_sem]) rfl ⟨by rw [R.out], (by (repeat' (first | assumption | exact Below.refl _ _ | refine Below.alloc ?_ ?_ _ | refine Below.setCell ?_ ?_ _ | refine Below.drew ?_ | refine below_drewN ?_ _)) <;> (first | omega | (simp <;> omega)))⟩
        · have R : Hid (Rm.uread s.data.toList = Rm.two W.data.toList P.data.toList) := by unfold Hid; rw [R0.out, hfP]; rfl
          have hPf := Rm.figs_all hfP
          have HPf : Hid (P.data.toList.all (fun c => Qm.fig c.toNat) = true) := hPf
          clear R0 hfP hPf
          go_wp2_with fail
          have hPf := HPf.out
          refine (l1Figures_any W _ (by omega)).mono ?_
          rintro e w' ⟨rfl, hw⟩
          subst w'
          cases hf : Rm.figs W.data.toList
          · go_wp2_with fail
            exact bodyPost_ret (v := .tuple #[.agg #[.int .i64 0, .int .i64 0], .bool false]) (by simp [results, Try.results28, go_sem]) rfl ⟨by rw [R.out, two_nofig hf], (by (repeat' (first | assumption | exact Below.refl _ _ | refine Below.alloc ?_ ?_ _ | refine Below.setCell ?_ ?_ _ | refine Below.drew ?_ | refine below_drewN ?_ _)) <;> (first | omega | (simp <;> omega)))⟩
          · by_cases h1 : 1 < W.size
            · have h1' : decide ((1 : Int) < W.size) = true := by simp; omega
              by_cases h0 : W[0] = 48
              · have h0' : ((W[0].toNat : Int) == 48) = true := eq_intR h0
                have HL : Hid (Rm.two W.data.toList P.data.toList = (0, 0, false)) := two_lead h1 h0
                clear h0
                go_wp2_with fail
                exact bodyPost_ret (v := .tuple #[.agg #[.int .i64 0, .int .i64 0], .bool false]) (by simp [results, Try.results28, go_sem]) rfl ⟨by rw [R.out, HL.out], (by (repeat' (first | assumption | exact Below.refl _ _ | refine Below.alloc ?_ ?_ _ | refine Below.setCell ?_ ?_ _ | refine Below.drew ?_ | refine below_drewN ?_ _)) <;> (first | omega | (simp <;> omega)))⟩
              · have h0' : ((W[0].toNat : Int) == 48) = false := ne_intR h0
                have hd0 : W.data.toList.getD 0 0 ≠ 48 := by rw [head_get W (by omega)]; exact h0
                have HD0 : Hid (W.data.toList.getD 0 0 ≠ 48) := hd0
                clear h0 hd0
                by_cases h17 : W.size + P.size ≤ 17
                · have h17' : decide ((17 : Int) < (W.size : Int) + P.size) = false := by simp; omega
                  have RF : Hid (Rm.uread s.data.toList = Dm.norm (Rm.whole (W.data.toList ++ P.data.toList)) (-(P.size : Int))) := by unfold Hid; rw [R.out, two_fit hf (.inr HD0.out) h17]
                  have hA : (W ++ P).data.toList.all (fun c => Qm.fig c.toNat) = true := by rw [app_list, List.all_append, Rm.figs_all hf, hPf]; rfl
                  have hAl := app_list W P
                  have hAs := app_size W P
                  rw [← hAl] at RF
                  clear hAl
                  have HA : Hid ((W ++ P).data.toList.all (fun c => Qm.fig c.toNat) = true) := hA
                  clear hA
                  go_wp2_with fail
                  generalize hAA : W ++ P = A at *
                  clear hAA
                  go_loop [7, 9] (fun n i => ∃ k : Nat, k ≤ A.size ∧ i = .int .i64 k ∧ n = .int .i64 (Rm.whole (A.data.toList.take k))) (fun _ i => A.size - (intOf i).toNat)
                  case atStart => exact ⟨0, Nat.zero_le _, rfl, rfl⟩
                  case round =>
                    obtain ⟨k2, hk2, rfl, rfl⟩ := hrel
                    obtain ⟨b1, b2⟩ := Rm.whole_17 A.data.toList HA.out (by rw [Qm.len_eq]; omega) k2
                    by_cases hlt2 : k2 < A.size
                    · have hfk : Qm.fig A[k2].toNat = true := (List.all_eq_true.1 HA.out) _ (by show A.data[k2] ∈ _; simp)
                      have HW : Hid (Rm.whole (A.data.toList.take (k2 + 1)) = Rm.whole (A.data.toList.take k2) * 10 + ((A[k2].toNat : Int) - 48)) := Rm.whole_take A.data.toList k2 (by rw [Qm.len_eq]; exact hlt2)
                      obtain ⟨f1, f2⟩ : (48 : Int) ≤ A[k2].toNat ∧ (A[k2].toNat : Int) ≤ 57 := by simpa [Qm.fig] using hfk
                      clear hfk
                      generalize Rm.whole (A.data.toList.take k2) = n at *
                      go_wp2_with fail
                      go_round
                      case rel => exact ⟨k2 + 1, by omega, by go_num, by rw [HW.out]⟩
                      case measure => simp [intOf]; omega
                    · have ht : A.data.toList.take k2 = A.data.toList := List.take_of_length_le (by rw [Qm.len_eq]; omega)
                      rw [ht] at b1 b2
                      have HT : Hid (A.data.toList.take k2 = A.data.toList) := ht
                      clear ht
                      go_wp2_with fail
                      rw [HT.out]
                      refine (l1New_any _ _ _ (by omega) (by omega) (by omega) (by omega)).mono ?_
                      rintro e w1 ⟨rfl, hb1⟩
                      have tw1 := (Two.new w 0 0 25).below hb1 (by simp)
                      obtain ⟨c0, c1, f0, f1⟩ := tw1
                      have hB1 : Below w.heap.size w w1 := Below.trans (by (repeat' (first | assumption | exact Below.refl _ _ | refine Below.alloc ?_ ?_ _ | refine Below.setCell ?_ ?_ _ | refine Below.drew ?_ | refine below_drewN ?_ _)) <;> (first | omega | (simp <;> omega))) (hb1.mono (by simp))
                      generalize hnn : Dm.norm (Rm.whole A.data.toList) (-(P.size : Int)) = nn at *
                      have HRF : Hid (Rm.uread s.data.toList = nn) := RF.out
                      clear hnn RF b1 b2 HT
                      go_wp2_with fail
                      exact bodyPost_ret (v := .tuple #[.agg #[.int .i64 nn.1, .int .i64 nn.2.1], .bool nn.2.2]) (by simp [results, Try.results28, go_sem, c0, c1]) rfl ⟨by rw [HRF.out], (by (repeat' (first | assumption | exact Below.refl _ _ | refine Below.alloc ?_ ?_ _ | refine Below.setCell ?_ ?_ _ | refine Below.drew ?_ | refine below_drewN ?_ _)) <;> (first | omega | (simp <;> omega)))⟩
                · have h17' : decide ((17 : Int) < (W.size : Int) + P.size) = true := by simp; omega
                  have HL : Hid (Rm.two W.data.toList P.data.toList = (0, 0, false)) := two_long h17
                  go_wp2_with fail
                  exact bodyPost_ret (v := .tuple #[.agg #[.int .i64 0, .int .i64 0], .bool false]) (by simp [results, Try.results28, go_sem]) rfl ⟨by rw [R.out, HL.out], (by (repeat' (first | assumption | exact Below.refl _ _ | refine Below.alloc ?_ ?_ _ | refine Below.setCell ?_ ?_ _ | refine Below.drew ?_ | refine below_drewN ?_ _)) <;> (first | omega | (simp <;> omega)))⟩
            · have h1' : decide ((1 : Int) < W.size) = false := by simp; omega
              by_cases h17 : W.size + P.size ≤ 17
              · have h17' : decide ((17 : Int) < (W.size : Int) + P.size) = false := by simp; omega
                have RF : Hid (Rm.uread s.data.toList = Dm.norm (Rm.whole (W.data.toList ++ P.data.toList)) (-(P.size : Int))) := by unfold Hid; rw [R.out, two_fit hf (.inl h1) h17]
                have hA : (W ++ P).data.toList.all (fun c => Qm.fig c.toNat) = true := by rw [app_list, List.all_append, Rm.figs_all hf, hPf]; rfl
                have hAl := app_list W P
                have hAs := app_size W P
                rw [← hAl] at RF
                clear hAl
                have HA : Hid ((W ++ P).data.toList.all (fun c => Qm.fig c.toNat) = true) := hA
                clear hA
                go_wp2_with fail
                generalize hAA : W ++ P = A at *
                clear hAA
                go_loop [7, 9] (fun n i => ∃ k : Nat, k ≤ A.size ∧ i = .int .i64 k ∧ n = .int .i64 (Rm.whole (A.data.toList.take k))) (fun _ i => A.size - (intOf i).toNat)
                case atStart => exact ⟨0, Nat.zero_le _, rfl, rfl⟩
                case round =>
                  obtain ⟨k2, hk2, rfl, rfl⟩ := hrel
                  obtain ⟨b1, b2⟩ := Rm.whole_17 A.data.toList HA.out (by rw [Qm.len_eq]; omega) k2
                  by_cases hlt2 : k2 < A.size
                  · have hfk : Qm.fig A[k2].toNat = true := (List.all_eq_true.1 HA.out) _ (by show A.data[k2] ∈ _; simp)
                    have HW : Hid (Rm.whole (A.data.toList.take (k2 + 1)) = Rm.whole (A.data.toList.take k2) * 10 + ((A[k2].toNat : Int) - 48)) := Rm.whole_take A.data.toList k2 (by rw [Qm.len_eq]; exact hlt2)
                    obtain ⟨f1, f2⟩ : (48 : Int) ≤ A[k2].toNat ∧ (A[k2].toNat : Int) ≤ 57 := by simpa [Qm.fig] using hfk
                    clear hfk
                    generalize Rm.whole (A.data.toList.take k2) = n at *
                    go_wp2_with fail
                    go_round
                    case rel => exact ⟨k2 + 1, by omega, by go_num, by rw [HW.out]⟩
                    case measure => simp [intOf]; omega
                  · have ht : A.data.toList.take k2 = A.data.toList := List.take_of_length_le (by rw [Qm.len_eq]; omega)
                    rw [ht] at b1 b2
                    have HT : Hid (A.data.toList.take k2 = A.data.toList) := ht
                    clear ht
                    go_wp2_with fail
                    rw [HT.out]
                    refine (l1New_any _ _ _ (by omega) (by omega) (by omega) (by omega)).mono ?_
                    rintro e w1 ⟨rfl, hb1⟩
                    have tw1 := (Two.new w 0 0 25).below hb1 (by simp)
                    obtain ⟨c0, c1, f0, f1⟩ := tw1
                    have hB1 : Below w.heap.size w w1 := Below.trans (by (repeat' (first | assumption | exact Below.refl _ _ | refine Below.alloc ?_ ?_ _ | refine Below.setCell ?_ ?_ _ | refine Below.drew ?_ | refine below_drewN ?_ _)) <;> (first | omega | (simp <;> omega))) (hb1.mono (by simp))
                    generalize hnn : Dm.norm (Rm.whole A.data.toList) (-(P.size : Int)) = nn at *
                    have HRF : Hid (Rm.uread s.data.toList = nn) := RF.out
                    clear hnn RF b1 b2 HT
                    go_wp2_with fail
                    exact bodyPost_ret (v := .tuple #[.agg #[.int .i64 nn.1, .int .i64 nn.2.1], .bool nn.2.2]) (by simp [results, Try.results28, go_sem, c0, c1]) rfl ⟨by rw [HRF.out], (by (repeat' (first | assumption | exact Below.refl _ _ | refine Below.alloc ?_ ?_ _ | refine Below.setCell ?_ ?_ _ | refine Below.drew ?_ | refine below_drewN ?_ _)) <;> (first | omega | (simp <;> omega)))⟩
              · have h17' : decide ((17 : Int) < (W.size : Int) + P.size) = true := by simp; omega
                have HL : Hid (Rm.two W.data.toList P.data.toList = (0, 0, false)) := two_long h17
                go_wp2_with fail
                exact bodyPost_ret (v := .tuple #[.agg #[.int .i64 0, .int .i64 0], .bool false]) (by simp [results, Try.results28, go_sem]) rfl ⟨by rw [R.out, HL.out], (by (repeat' (first | assumption | exact Below.refl _ _ | refine Below.alloc ?_ ?_ _ | refine Below.setCell ?_ ?_ _ | refine Below.drew ?_ | refine below_drewN ?_ _)) <;> (first | omega | (simp <;> omega)))⟩
      · have hc' : ((s[k].toNat : Int) == 46) = false := ne_intR hc
        have HP1 : Hid (Rm.Past s.data.toList (k + 1)) := HP.out.succ (by rw [Qm.len_eq]; exact hlt) hc
        clear hc
        go_wp2_with fail
        go_round
        case rel => exact ⟨k + 1, by omega, rfl, rfl, by go_num, HP1.out⟩
        case measure => simp [intOf]; omega
    · have hsp : Rm.sp s.data.toList = (s.data.toList, none) := HP.out.fin (by rw [Qm.len_eq]; omega)
      obtain ⟨P, hP⟩ : ∃ P : ByteArray, P = ⟨#[]⟩ := ⟨_, rfl⟩
      have R : Hid (Rm.uread s.data.toList = Rm.two s.data.toList P.data.toList) := by unfold Hid Rm.uread; rw [hsp, hP]
      have HPf : Hid (P.data.toList.all (fun c => Qm.fig c.toNat) = true) := by unfold Hid; rw [hP]; rfl
      have hP0 : P.size = 0 := by rw [hP]; rfl
      have hWP : s.size + P.size ≤ 10000000 := by omega
      have H0 : Hid (P = ⟨#[]⟩) := hP
      clear hsp hP hP0
      go_wp2_with fail
      rw [← H0.out]
      have hPf := HPf.out
      clear H0
      refine (l1Figures_any s _ (by omega)).mono ?_
      rintro e w' ⟨rfl, hw⟩
      subst w'
      cases hf : Rm.figs s.data.toList
      · go_wp2_with fail
        exact bodyPost_ret (v := .tuple #[.agg #[.int .i64 0, .int .i64 0], .bool false]) (by simp [results, Try.results28, go_sem]) rfl ⟨by rw [R.out, two_nofig hf], (by (repeat' (first | assumption | exact Below.refl _ _ | refine Below.alloc ?_ ?_ _ | refine Below.setCell ?_ ?_ _ | refine Below.drew ?_ | refine below_drewN ?_ _)) <;> (first | omega | (simp <;> omega)))⟩
      · by_cases h1 : 1 < s.size
        · have h1' : decide ((1 : Int) < s.size) = true := by simp; omega
          by_cases h0 : s[0] = 48
          · have h0' : ((s[0].toNat : Int) == 48) = true := eq_intR h0
            have HL : Hid (Rm.two s.data.toList P.data.toList = (0, 0, false)) := two_lead h1 h0
            clear h0
            go_wp2_with fail
            exact bodyPost_ret (v := .tuple #[.agg #[.int .i64 0, .int .i64 0], .bool false]) (by simp [results, Try.results28, go_sem]) rfl ⟨by rw [R.out, HL.out], (by (repeat' (first | assumption | exact Below.refl _ _ | refine Below.alloc ?_ ?_ _ | refine Below.setCell ?_ ?_ _ | refine Below.drew ?_ | refine below_drewN ?_ _)) <;> (first | omega | (simp <;> omega)))⟩
          · have h0' : ((s[0].toNat : Int) == 48) = false := ne_intR h0
            have hd0 : s.data.toList.getD 0 0 ≠ 48 := by rw [head_get s (by omega)]; exact h0
            have HD0 : Hid (s.data.toList.getD 0 0 ≠ 48) := hd0
            clear h0 hd0
            by_cases h17 : s.size + P.size ≤ 17
            · have h17' : decide ((17 : Int) < (s.size : Int) + P.size) = false := by simp; omega
              have RF : Hid (Rm.uread s.data.toList = Dm.norm (Rm.whole (s.data.toList ++ P.data.toList)) (-(P.size : Int))) := by unfold Hid; rw [R.out, two_fit hf (.inr HD0.out) h17]
              have hA : (s ++ P).data.toList.all (fun c => Qm.fig c.toNat) = true := by rw [app_list, List.all_append, Rm.figs_all hf, hPf]; rfl
              have hAl := app_list s P
              have hAs := app_size s P
              rw [← hAl] at RF
              clear hAl
              have HA : Hid ((s ++ P).data.toList.all (fun c => Qm.fig c.toNat) = true) := hA
              clear hA
              go_wp2_with fail
              generalize hAA : s ++ P = A at *
              clear hAA
              go_loop [7, 9] (fun n i => ∃ k : Nat, k ≤ A.size ∧ i = .int .i64 k ∧ n = .int .i64 (Rm.whole (A.data.toList.take k))) (fun _ i => A.size - (intOf i).toNat)
              case atStart => exact ⟨0, Nat.zero_le _, rfl, rfl⟩
              case round =>
                obtain ⟨k2, hk2, rfl, rfl⟩ := hrel
                obtain ⟨b1, b2⟩ := Rm.whole_17 A.data.toList HA.out (by rw [Qm.len_eq]; omega) k2
                by_cases hlt2 : k2 < A.size
                · have hfk : Qm.fig A[k2].toNat = true := (List.all_eq_true.1 HA.out) _ (by show A.data[k2] ∈ _; simp)
                  have HW : Hid (Rm.whole (A.data.toList.take (k2 + 1)) = Rm.whole (A.data.toList.take k2) * 10 + ((A[k2].toNat : Int) - 48)) := Rm.whole_take A.data.toList k2 (by rw [Qm.len_eq]; exact hlt2)
                  obtain ⟨f1, f2⟩ : (48 : Int) ≤ A[k2].toNat ∧ (A[k2].toNat : Int) ≤ 57 := by simpa [Qm.fig] using hfk
                  clear hfk
                  generalize Rm.whole (A.data.toList.take k2) = n at *
                  go_wp2_with fail
                  go_round
                  case rel => exact ⟨k2 + 1, by omega, by go_num, by rw [HW.out]⟩
                  case measure => simp [intOf]; omega
                · have ht : A.data.toList.take k2 = A.data.toList := List.take_of_length_le (by rw [Qm.len_eq]; omega)
                  rw [ht] at b1 b2
                  have HT : Hid (A.data.toList.take k2 = A.data.toList) := ht
                  clear ht
                  go_wp2_with fail
                  rw [HT.out]
                  refine (l1New_any _ _ _ (by omega) (by omega) (by omega) (by omega)).mono ?_
                  rintro e w1 ⟨rfl, hb1⟩
                  have tw1 := (Two.new w 0 0 25).below hb1 (by simp)
                  obtain ⟨c0, c1, f0, f1⟩ := tw1
                  have hB1 : Below w.heap.size w w1 := Below.trans (by (repeat' (first | assumption | exact Below.refl _ _ | refine Below.alloc ?_ ?_ _ | refine Below.setCell ?_ ?_ _ | refine Below.drew ?_ | refine below_drewN ?_ _)) <;> (first | omega | (simp <;> omega))) (hb1.mono (by simp))
                  generalize hnn : Dm.norm (Rm.whole A.data.toList) (-(P.size : Int)) = nn at *
                  have HRF : Hid (Rm.uread s.data.toList = nn) := RF.out
                  clear hnn RF b1 b2 HT
                  go_wp2_with fail
                  exact bodyPost_ret (v := .tuple #[.agg #[.int .i64 nn.1, .int .i64 nn.2.1], .bool nn.2.2]) (by simp [results, Try.results28, go_sem, c0, c1]) rfl ⟨by rw [HRF.out], (by (repeat' (first | assumption | exact Below.refl _ _ | refine Below.alloc ?_ ?_ _ | refine Below.setCell ?_ ?_ _ | refine Below.drew ?_ | refine below_drewN ?_ _)) <;> (first | omega | (simp <;> omega)))⟩
            · have h17' : decide ((17 : Int) < (s.size : Int) + P.size) = true := by simp; omega
              have HL : Hid (Rm.two s.data.toList P.data.toList = (0, 0, false)) := two_long h17
              go_wp2_with fail
              exact bodyPost_ret (v := .tuple #[.agg #[.int .i64 0, .int .i64 0], .bool false]) (by simp [results, Try.results28, go_sem]) rfl ⟨by rw [R.out, HL.out], (by (repeat' (first | assumption | exact Below.refl _ _ | refine Below.alloc ?_ ?_ _ | refine Below.setCell ?_ ?_ _ | refine Below.drew ?_ | refine below_drewN ?_ _)) <;> (first | omega | (simp <;> omega)))⟩
        · have h1' : decide ((1 : Int) < s.size) = false := by simp; omega
          by_cases h17 : s.size + P.size ≤ 17
          · have h17' : decide ((17 : Int) < (s.size : Int) + P.size) = false := by simp; omega
            have RF : Hid (Rm.uread s.data.toList = Dm.norm (Rm.whole (s.data.toList ++ P.data.toList)) (-(P.size : Int))) := by unfold Hid; rw [R.out, two_fit hf (.inl h1) h17]
            have hA : (s ++ P).data.toList.all (fun c => Qm.fig c.toNat) = true := by rw [app_list, List.all_append, Rm.figs_all hf, hPf]; rfl
            have hAl := app_list s P
            have hAs := app_size s P
            rw [← hAl] at RF
            clear hAl
            have HA : Hid ((s ++ P).data.toList.all (fun c => Qm.fig c.toNat) = true) := hA
            clear hA
            go_wp2_with fail
            generalize hAA : s ++ P = A at *
            clear hAA
            go_loop [7, 9] (fun n i => ∃ k : Nat, k ≤ A.size ∧ i = .int .i64 k ∧ n = .int .i64 (Rm.whole (A.data.toList.take k))) (fun _ i => A.size - (intOf i).toNat)
            case atStart => exact ⟨0, Nat.zero_le _, rfl, rfl⟩
            case round =>
              obtain ⟨k2, hk2, rfl, rfl⟩ := hrel
              obtain ⟨b1, b2⟩ := Rm.whole_17 A.data.toList HA.out (by rw [Qm.len_eq]; omega) k2
              by_cases hlt2 : k2 < A.size
              · have hfk : Qm.fig A[k2].toNat = true := (List.all_eq_true.1 HA.out) _ (by show A.data[k2] ∈ _; simp)
                have HW : Hid (Rm.whole (A.data.toList.take (k2 + 1)) = Rm.whole (A.data.toList.take k2) * 10 + ((A[k2].toNat : Int) - 48)) := Rm.whole_take A.data.toList k2 (by rw [Qm.len_eq]; exact hlt2)
                obtain ⟨f1, f2⟩ : (48 : Int) ≤ A[k2].toNat ∧ (A[k2].toNat : Int) ≤ 57 := by simpa [Qm.fig] using hfk
                clear hfk
                generalize Rm.whole (A.data.toList.take k2) = n at *
                go_wp2_with fail
                go_round
                case rel => exact ⟨k2 + 1, by omega, by go_num, by rw [HW.out]⟩
                case measure => simp [intOf]; omega
              · have ht : A.data.toList.take k2 = A.data.toList := List.take_of_length_le (by rw [Qm.len_eq]; omega)
                rw [ht] at b1 b2
                have HT : Hid (A.data.toList.take k2 = A.data.toList) := ht
                clear ht
                go_wp2_with fail
                rw [HT.out]
                refine (l1New_any _ _ _ (by omega) (by omega) (by omega) (by omega)).mono ?_
                rintro e w1 ⟨rfl, hb1⟩
                have tw1 := (Two.new w 0 0 25).below hb1 (by simp)
                obtain ⟨c0, c1, f0, f1⟩ := tw1
                have hB1 : Below w.heap.size w w1 := Below.trans (by (repeat' (first | assumption | exact Below.refl _ _ | refine Below.alloc ?_ ?_ _ | refine Below.setCell ?_ ?_ _ | refine Below.drew ?_ | refine below_drewN ?_ _)) <;> (first | omega | (simp <;> omega))) (hb1.mono (by simp))
                generalize hnn : Dm.norm (Rm.whole A.data.toList) (-(P.size : Int)) = nn at *
                have HRF : Hid (Rm.uread s.data.toList = nn) := RF.out
                clear hnn RF b1 b2 HT
                go_wp2_with fail
                exact bodyPost_ret (v := .tuple #[.agg #[.int .i64 nn.1, .int .i64 nn.2.1], .bool nn.2.2]) (by simp [results, Try.results28, go_sem, c0, c1]) rfl ⟨by rw [HRF.out], (by (repeat' (first | assumption | exact Below.refl _ _ | refine Below.alloc ?_ ?_ _ | refine Below.setCell ?_ ?_ _ | refine Below.drew ?_ | refine below_drewN ?_ _)) <;> (first | omega | (simp <;> omega)))⟩
          · have h17' : decide ((17 : Int) < (s.size : Int) + P.size) = true := by simp; omega
            have HL : Hid (Rm.two s.data.toList P.data.toList = (0, 0, false)) := two_long h17
            go_wp2_with fail
            exact bodyPost_ret (v := .tuple #[.agg #[.int .i64 0, .int .i64 0], .bool false]) (by simp [results, Try.results28, go_sem]) rfl ⟨by rw [R.out, HL.out], (by (repeat' (first | assumption | exact Below.refl _ _ | refine Below.alloc ?_ ?_ _ | refine Below.setCell ?_ ?_ _ | refine Below.drew ?_ | refine below_drewN ?_ _)) <;> (first | omega | (simp <;> omega)))⟩
end Go.Proofs.Ytldlfmehplemiaa
