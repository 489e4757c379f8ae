/- Contracts: DecRead of both sides. -/
import Derived.Test.YtldlfmehplemiaaReadB
namespace Go.Proofs.Ytldlfmehplemiaa
open Go.RowKit

theorem norm_bd (m e : Int) : -99999999 ≤ (Dm.norm m e).1 ∧ (Dm.norm m e).1 ≤ 99999999 := by
  unfold Dm.norm
  split
  · simp
  · split
    · rename_i h
      rcases (Dm.ok_iff _ _).1 h with ⟨h1, _⟩ | ⟨_, h1, h2, _⟩
      · show _ ≤ (Dm.strip 20 m e).1 ∧ (Dm.strip 20 m e).1 ≤ _
        omega
      · exact ⟨h1, h2⟩
    · simp
theorem two_bd (a b : List UInt8) : -99999999 ≤ (Rm.two a b).1 ∧ (Rm.two a b).1 ≤ 99999999 := by
  unfold Rm.two; split
  · exact norm_bd _ _
  · simp
theorem uread_bd (l : List UInt8) : -99999999 ≤ (Rm.uread l).1 ∧ (Rm.uread l).1 ≤ 99999999 := by
  unfold Rm.uread; split
  · exact two_bd _ _
  · split
    · exact two_bd _ _
    · simp
theorem read_minus (s : ByteArray) (h : 0 < s.size) (h0 : s[0] = 45) : Rm.read s.data.toList = Dm.neg3 (Rm.uread (s.data.toList.drop 1)) := by
  have e : s.data.toList = s[0] :: s.data.toList.drop 1 := Qm.drop_at s 0 h
  rw [e, h0]; rfl
theorem read_plain (s : ByteArray) (h : 0 < s.size) (h0 : s[0] ≠ 45) : Rm.read s.data.toList = Rm.uread s.data.toList := by
  have e : s.data.toList = s[0] :: s.data.toList.drop 1 := Qm.drop_at s 0 h
  rw [e]; simp only [Rm.read, if_neg h0]
theorem read_none (s : ByteArray) (h : ¬ 0 < s.size) : Rm.read s.data.toList = Rm.uread s.data.toList := by
  have e : s.data.toList = [] := List.eq_nil_of_length_eq_zero (by rw [Qm.len_eq]; omega)
  rw [e]; rfl

set_option maxHeartbeats 2000000 in
theorem sDecRead_any (s : ByteArray) (w : World) (hs : s.size ≤ 10000000) :
    Calls Try.prog 10 #[.string s] w fun e w' => e = dec3 (Rm.read s.data.toList) ∧ Below w.heap.size w w' := by
  by_cases h : 0 < s.size
  · have h' : decide ((0 : Int) < s.size) = true := by simp; omega
    by_cases h0 : s[0] = 45
    · have h0' : ((s[0].toNat : Int) == 45) = true := eq_intR h0
      have R : Hid (Rm.read s.data.toList = Dm.neg3 (Rm.uread (s.extract 1 s.size).data.toList)) := by unfold Hid; rw [read_minus s h h0, ext_end]
      have hx : (s.extract 1 s.size).size = s.size - 1 := by rw [← Qm.len_eq, ext_end, List.length_drop, Qm.len_eq]
      have k1 : (1 : Int) ≤ s.size := by omega
      clear h0
      go_enter Try.func10, Try.ntmps10
      go_wp2_with fail
      refine (l1Read_any (s.extract 1 s.size) _ (by omega)).mono ?_
      rintro e w1 ⟨rfl, hb1⟩
      have tw1 := (Two.new w 0 0 25).below hb1 (by simp)
      have hB1 : Below w.heap.size w w1 := Below.trans (by (repeat' (first | assumption | exact Below.refl _ _ | refine Below.alloc ?_ ?_ _ | refine Below.setCell ?_ ?_ _ | refine Below.drew ?_ | refine below_drewN ?_ _)) <;> (first | omega | (simp <;> omega))) (hb1.mono (by simp))
      have hz1 : w.heap.size < w1.heap.size := by have := hb1.size; simp at this; omega
      obtain ⟨d1, d2⟩ := uread_bd (s.extract 1 s.size).data.toList
      generalize Rm.uread (s.extract 1 s.size).data.toList = nn at *
      clear hb1
      have tw2 := tw1.alloc hz1 (Obj.cells #[Value.int IntKind.i64 nn.1, Value.int IntKind.i64 nn.2.1] 25)
      obtain ⟨c0, c1, f0, f1⟩ := tw2
      go_wp2_with fail
      refine (l1Neg_any _ _ _ (by omega) (by omega)).mono ?_
      rintro e w2 ⟨rfl, hb2⟩
      have tw3 := (Two.below ⟨c0, c1, f0, f1⟩ hb2 (by simp; omega))
      have hB2 : Below w.heap.size w w2 := (hB1.alloc (by omega) _).trans (hb2.mono (by simp; omega))
      clear c0 c1 f0 f1 hb2 hB1 tw1
      obtain ⟨c0, c1, f0, f1⟩ := tw3
      go_wp2_with fail
      exact bodyPost_ret (v := .tuple #[.agg #[.int .i64 (-nn.1), .int .i64 nn.2.1], .bool nn.2.2]) (by simp [results, Try.results10, go_sem, c0, c1]) rfl ⟨by rw [R.out]; rfl, (by (repeat' (first | assumption | exact Below.refl _ _ | refine Below.alloc ?_ ?_ _ | refine Below.setCell ?_ ?_ _ | refine Below.drew ?_ | refine below_drewN ?_ _)) <;> (first | omega | (simp <;> omega)))⟩
    · have h0' : ((s[0].toNat : Int) == 45) = false := ne_intR h0
      rw [read_plain s h h0]
      clear h0
      go_enter Try.func10, Try.ntmps10
      go_wp2_with fail
      refine (l1Read_any s _ hs).mono ?_
      rintro e w1 ⟨rfl, hb1⟩
      have tw1 := (Two.new w 0 0 25).below hb1 (by simp)
      obtain ⟨c0, c1, f0, f1⟩ := tw1
      have hB1 : Below w.heap.size w w1 := Below.trans (by (repeat' (first | assumption | exact Below.refl _ _ | refine Below.alloc ?_ ?_ _ | refine Below.setCell ?_ ?_ _ | refine Below.drew ?_ | refine below_drewN ?_ _)) <;> (first | omega | (simp <;> omega))) (hb1.mono (by simp))
      obtain ⟨nn, hnn⟩ : ∃ nn, nn = Rm.uread s.data.toList := ⟨_, rfl⟩
      rw [← hnn]
      have HN : Hid (nn = Rm.uread s.data.toList) := hnn
      clear hnn
      go_wp2_with fail
      exact bodyPost_ret (v := .tuple #[.agg #[.int .i64 nn.1, .int .i64 nn.2.1], .bool nn.2.2]) (by simp [results, Try.results10, go_sem, c0, c1]) rfl ⟨by rw [← HN.out], (by (repeat' (first | assumption | exact Below.refl _ _ | refine Below.alloc ?_ ?_ _ | refine Below.setCell ?_ ?_ _ | refine Below.drew ?_ | refine below_drewN ?_ _)) <;> (first | omega | (simp <;> omega)))⟩
  · have h' : (s.size : Int) ≤ 0 := by omega
    have h'' : decide ((0 : Int) < s.size) = false := decide_eq_false (by omega)
    rw [read_none s h]
    go_enter Try.func10, Try.ntmps10
    go_wp2_with fail
    refine (l1Read_any s _ hs).mono ?_
    rintro e w1 ⟨rfl, hb1⟩
    have tw1 := (Two.new w 0 0 25).below hb1 (by simp)
    obtain ⟨c0, c1, f0, f1⟩ := tw1
    have hB1 : Below w.heap.size w w1 := Below.trans (by (repeat' (first | assumption | exact Below.refl _ _ | refine Below.alloc ?_ ?_ _ | refine Below.setCell ?_ ?_ _ | refine Below.drew ?_ | refine below_drewN ?_ _)) <;> (first | omega | (simp <;> omega))) (hb1.mono (by simp))
    obtain ⟨nn, hnn⟩ : ∃ nn, nn = Rm.uread s.data.toList := ⟨_, rfl⟩
    rw [← hnn]
    have HN : Hid (nn = Rm.uread s.data.toList) := hnn
    clear hnn
    go_wp2_with fail
    exact bodyPost_ret (v := .tuple #[.agg #[.int .i64 nn.1, .int .i64 nn.2.1], .bool nn.2.2]) (by simp [results, Try.results10, go_sem, c0, c1]) rfl ⟨by rw [← HN.out], (by (repeat' (first | assumption | exact Below.refl _ _ | refine Below.alloc ?_ ?_ _ | refine Below.setCell ?_ ?_ _ | refine Below.drew ?_ | refine below_drewN ?_ _)) <;> (first | omega | (simp <;> omega)))⟩

/-- what the program makes of the part without its sign -/
theorem new_fit {W P : ByteArray} (h : Rm.figs W.data.toList = true) (hP : P.data.toList.all (fun c => Qm.fig c.toNat) = true) (h2 : W.size + P.size ≤ 17) (sg : Bool) :
    Dm.new (if sg then -(Rm.whole (W ++ P).data.toList) else Rm.whole (W ++ P).data.toList) (-(P.size : Int)) = (if sg then Dm.neg3 (Dm.norm (Rm.whole (W.data.toList ++ P.data.toList)) (-(P.size : Int))) else Dm.norm (Rm.whole (W.data.toList ++ P.data.toList)) (-(P.size : Int))) := by
  have hA : (W ++ P).data.toList.all (fun c => Qm.fig c.toNat) = true := by rw [app_list, List.all_append, Rm.figs_all h, hP]; rfl
  have hb := Rm.whole_17 _ hA (by rw [Qm.len_eq, app_size]; exact h2) (W ++ P).data.toList.length
  rw [List.take_of_length_le (Nat.le_refl _)] at hb
  obtain ⟨b1, b2⟩ := hb
  rw [app_list] at *
  cases sg
  · show Dm.new (Rm.whole (W.data.toList ++ P.data.toList)) _ = _
    rw [Dm.new, if_pos ⟨⟨by omega, by omega⟩, by omega, by omega⟩]; rfl
  · show Dm.new (-(Rm.whole (W.data.toList ++ P.data.toList))) _ = Dm.neg3 _
    rw [Dm.new, if_pos ⟨⟨by omega, by omega⟩, by omega, by omega⟩, Dm.norm_neg]

theorem cutSign_any (s : ByteArray) (w : World) :
    Calls Try.prog 30 #[.string s, .string ⟨#[45]⟩] w fun e w' => (∃ U sg, e = .returned (.tuple #[.string U, .bool sg]) ∧ Rm.read s.data.toList = (if sg then Dm.neg3 (Rm.uread U.data.toList) else Rm.uread U.data.toList) ∧ U.size ≤ s.size) ∧ w' = w := by
  refine (cutMinus_any s w).mono ?_
  rintro e w' ⟨rfl, hw⟩
  refine ⟨?_, hw⟩
  by_cases h : 0 < s.size
  · have e : s.data.toList = s[0] :: s.data.toList.drop 1 := Qm.drop_at s 0 h
    by_cases h0 : s[0] = 45
    · have hp : Lib.hasPrefix s.data.toList [45] = true := by rw [e, h0]; rfl
      refine ⟨⟨(s.data.toList.drop 1).toArray⟩, true, ?_, ?_, ?_⟩
      · rw [Lib.trimPrefix, hp]; rfl
      · rw [read_minus s h h0]; rfl
      · rw [← Qm.len_eq, ← Qm.len_eq s]; simp
    · have hp : Lib.hasPrefix s.data.toList [45] = false := by
        rw [e]; unfold Lib.hasPrefix; simp [List.isPrefixOf]; intro h; exact h0 h.symm
      refine ⟨s, false, ?_, ?_, Nat.le_refl _⟩
      · rw [Lib.trimPrefix, hp, if_neg (by simp), arrB]
      · rw [read_plain s h h0]; rfl
  · have e : s.data.toList = [] := List.eq_nil_of_length_eq_zero (by rw [Qm.len_eq]; omega)
    have hp : Lib.hasPrefix s.data.toList [45] = false := by rw [e]; rfl
    refine ⟨s, false, ?_, ?_, Nat.le_refl _⟩
    · rw [Lib.trimPrefix, hp, if_neg (by simp), arrB]
    · rw [read_none s h]; rfl

theorem cutPoint_any (s : ByteArray) (w : World) (hs : s.size ≤ 100000000) :
    Calls Try.prog 31 #[.string s, .string ⟨#[46]⟩] w fun e w' => (∃ W P pt, e = .returned (.tuple #[.string W, .string P, .bool pt]) ∧ Rm.uread s.data.toList = (if pt && !Rm.figs P.data.toList then (0, 0, false) else Rm.two W.data.toList P.data.toList) ∧ (pt = false → P.data.toList.all (fun c => Qm.fig c.toNat) = true) ∧ W.size + P.size ≤ s.size) ∧ Below w.heap.size w w' := by
  refine (cutDot_any s w hs).mono ?_
  rintro e w' ⟨rfl, hb⟩
  refine ⟨?_, hb⟩
  cases hp : (Rm.sp s.data.toList).2 with
  | none =>
    refine ⟨s, ⟨#[]⟩, false, ?_, ?_, fun _ => rfl, Nat.le_refl _⟩
    · unfold cutRes; rw [hp, Rm.sp_none hp, arrB]; rfl
    · unfold Rm.uread; rw [hp, Rm.sp_none hp]; rfl
  | some b =>
    have hsome := Rm.sp_some hp
    refine ⟨⟨(Rm.sp s.data.toList).1.toArray⟩, ⟨b.toArray⟩, true, ?_, ?_, fun h => Bool.noConfusion h, ?_⟩
    · unfold cutRes; rw [hp]; rfl
    · unfold Rm.uread; rw [hp]
      show (if Rm.figs b = true then _ else _) = if (true && !Rm.figs b) = true then _ else Rm.two (Rm.sp s.data.toList).1 b
      cases Rm.figs b <;> simp
    · have e := congrArg List.length hsome
      rw [List.length_append, Qm.len_eq, List.length_cons] at e
      rw [← Qm.len_eq, ← Qm.len_eq]
      show (Rm.sp s.data.toList).1.length + b.length ≤ s.size
      omega

set_option maxHeartbeats 4000000 in
theorem iDecRead_any (s : ByteArray) (w : World) (hs : s.size ≤ 10000000) :
    Calls Try.prog 11 #[.string s] w fun e w' => e = dec3 (Rm.read s.data.toList) ∧ Below w.heap.size w w' := by
  go_enter Try.func11, Try.ntmps11
  go_wp2_with fail
  refine (cutSign_any s _).mono ?_
  rintro e w' ⟨⟨U, sg, rfl, hR, hU⟩, hw⟩
  subst w'
  have HR : Hid (Rm.read s.data.toList = (if sg then Dm.neg3 (Rm.uread U.data.toList) else Rm.uread U.data.toList)) := hR
  clear hR
  go_wp2_with fail
  refine (cutPoint_any U _ (by omega)).mono ?_
  rintro e w1 ⟨⟨W, P, pt, rfl, hR2, hP, hWP⟩, hb1⟩
  have HR2 : Hid (Rm.uread U.data.toList = (if pt && !Rm.figs P.data.toList then (0, 0, false) else Rm.two W.data.toList P.data.toList)) := hR2
  have HP : Hid (pt = false → P.data.toList.all (fun c => Qm.fig c.toNat) = true) := hP
  clear hR2 hP
  have tw1 := (Two.new w 0 0 25).below hb1 (by simp)
  have hB1 : Below w.heap.size w w1 := Below.trans (by (repeat' (first | assumption | exact Below.refl _ _ | refine Below.alloc ?_ ?_ _ | refine Below.setCell ?_ ?_ _ | refine Below.drew ?_ | refine below_drewN ?_ _)) <;> (first | omega | (simp <;> omega))) (hb1.mono (by simp))
  have hz1 : w.heap.size < w1.heap.size := by have := hb1.size; simp at this; omega
  clear hb1
  obtain ⟨c0, c1, f0, f1⟩ := tw1
  have ZERO : Hid (Rm.uread U.data.toList = (0, 0, false) → Rm.read s.data.toList = (0, 0, false)) := by
    intro h; rw [HR.out, h]; cases sg <;> rfl
  have HPf : Hid ((pt && !Rm.figs P.data.toList) = false → P.data.toList.all (fun c => Qm.fig c.toNat) = true) := by
    intro h
    cases hpt : pt
    · exact HP.out hpt
    · rw [hpt] at h; simp at h; exact Rm.figs_all h
  cases hf : Rm.figs W.data.toList
  · go_wp2_with (go_at_call 32; refine (areFigures_any W _ (by omega)).mono ?_; rintro e w' ⟨rfl, hw⟩; subst w')
    have HZ : Rm.uread U.data.toList = (0, 0, false) := by rw [HR2.out]; split; rfl; rw [two_nofig hf]
    exact bodyPost_ret (v := .tuple #[.agg #[.int .i64 0, .int .i64 0], .bool false]) (by simp [results, Try.results11, go_sem, c0, c1]) rfl ⟨by rw [ZERO.out HZ], (by (repeat' (first | assumption | exact Below.refl _ _ | refine Below.alloc ?_ ?_ _ | refine Below.setCell ?_ ?_ _ | refine Below.drew ?_ | refine below_drewN ?_ _)) <;> (first | omega | (simp <;> omega)))⟩
  · cases hpt : pt
    · have HT : Hid (Rm.uread U.data.toList = Rm.two W.data.toList P.data.toList) := by unfold Hid; rw [HR2.out, hpt]; rfl
      have hPf : Hid (P.data.toList.all (fun c => Qm.fig c.toNat) = true) := HP.out hpt
      clear HR2 HP HPf hpt
      by_cases h1 : 1 < W.size
      · have h1' : decide ((1 : Int) < W.size) = true := by simp; omega
        by_cases h0 : W[0] = 48
        · have h0' : ((W[0].toNat : Int) == 48) = true := eq_intR h0
          have HZ : Hid (Rm.uread U.data.toList = (0, 0, false)) := by unfold Hid; rw [HT.out]; exact two_lead h1 h0
          clear h0
          go_wp2_with fail
          refine (areFigures_any W _ (by omega)).mono ?_
          rintro e w' ⟨rfl, hw⟩
          subst w'
          rw [hf]
          go_wp2_with fail
          exact bodyPost_ret (v := .tuple #[.agg #[.int .i64 0, .int .i64 0], .bool false]) (by simp [results, Try.results11, go_sem, c0, c1]) rfl ⟨by rw [ZERO.out HZ.out], (by (repeat' (first | assumption | exact Below.refl _ _ | refine Below.alloc ?_ ?_ _ | refine Below.setCell ?_ ?_ _ | refine Below.drew ?_ | refine below_drewN ?_ _)) <;> (first | omega | (simp <;> omega)))⟩
        · have h0' : ((W[0].toNat : Int) == 48) = false := ne_intR h0
          have HD0 : Hid (W.data.toList.getD 0 0 ≠ 48) := by unfold Hid; rw [head_get W (by omega)]; exact h0
          clear h0
          by_cases h17 : W.size + P.size ≤ 17
          · have h17' : decide ((17 : Int) < (W.size : Int) + P.size) = false := by simp; omega
            have HF : Hid (Rm.uread U.data.toList = Dm.norm (Rm.whole (W.data.toList ++ P.data.toList)) (-(P.size : Int))) := by unfold Hid; rw [HT.out, two_fit hf (.inr HD0.out) h17]
            have hA : (W ++ P).data.toList.all (fun c => Qm.fig c.toNat) = true := by rw [app_list, List.all_append, Rm.figs_all hf, hPf.out]; rfl
            have hAs := app_size W P
            have HN := new_fit hf hPf.out h17 sg
            obtain ⟨b1, b2⟩ := Rm.whole_17 _ hA (by rw [Qm.len_eq]; omega) (W ++ P).data.toList.length
            rw [List.take_of_length_le (Nat.le_refl _)] at b1 b2
            have HA : Hid ((W ++ P).data.toList.all (fun c => Qm.fig c.toNat) = true) := hA
            have HNN : Hid (Dm.new (if sg then -(Rm.whole (W ++ P).data.toList) else Rm.whole (W ++ P).data.toList) (-(P.size : Int)) = Rm.read s.data.toList) := by unfold Hid; rw [HN, HR.out, HF.out]
            clear hA HN
            go_wp2_with fail
            refine (areFigures_any W _ (by omega)).mono ?_
            rintro e w' ⟨rfl, hw⟩
            subst w'
            rw [hf]
            go_wp2_with fail
            refine (wholeOf_any (W ++ P) _ (by omega) HA.out).mono ?_
            rintro e w' ⟨rfl, hw⟩
            subst w'
            generalize Rm.whole (W ++ P).data.toList = n at *
            generalize W ++ P = A at *
            cases hsg : sg
            all_goals
              rw [hsg] at HNN
              go_wp2_with fail
              refine (iDecNew_any _ _ _).mono ?_
              rintro e w2 ⟨rfl, hb2⟩
              have HN2 := HNN.out
              simp only [if_true, if_false, Bool.false_eq_true] at HN2
              rw [HN2]
              have tw2 := Two.below ⟨c0, c1, f0, f1⟩ hb2 (by omega)
              have hB2 : Below w.heap.size w w2 := hB1.trans (hb2.mono (by omega))
              clear c0 c1 f0 f1 hb2 hB1 HNN HN2
              obtain ⟨c0, c1, f0, f1⟩ := tw2
              obtain ⟨nn, hnn⟩ : ∃ nn, nn = Rm.read s.data.toList := ⟨_, rfl⟩
              rw [← hnn]
              have HN3 : Hid (nn = Rm.read s.data.toList) := hnn
              clear hnn
              go_wp2_with fail
              exact bodyPost_ret (v := .tuple #[.agg #[.int .i64 nn.1, .int .i64 nn.2.1], .bool nn.2.2]) (by simp [results, Try.results11, go_sem, c0, c1]) rfl ⟨by rw [← HN3.out], (by (repeat' (first | assumption | exact Below.refl _ _ | refine Below.alloc ?_ ?_ _ | refine Below.setCell ?_ ?_ _ | refine Below.drew ?_ | refine below_drewN ?_ _)) <;> (first | omega | (simp <;> omega)))⟩
          · have h17' : decide ((17 : Int) < (W.size : Int) + P.size) = true := by simp; omega
            have HZ : Hid (Rm.uread U.data.toList = (0, 0, false)) := by unfold Hid; rw [HT.out]; exact two_long h17
            go_wp2_with fail
            refine (areFigures_any W _ (by omega)).mono ?_
            rintro e w' ⟨rfl, hw⟩
            subst w'
            rw [hf]
            go_wp2_with fail
            exact bodyPost_ret (v := .tuple #[.agg #[.int .i64 0, .int .i64 0], .bool false]) (by simp [results, Try.results11, go_sem, c0, c1]) rfl ⟨by rw [ZERO.out HZ.out], (by (repeat' (first | assumption | exact Below.refl _ _ | refine Below.alloc ?_ ?_ _ | refine Below.setCell ?_ ?_ _ | refine Below.drew ?_ | refine below_drewN ?_ _)) <;> (first | omega | (simp <;> omega)))⟩
      · have h1' : decide ((1 : Int) < W.size) = false := by simp; omega
        by_cases h17 : W.size + P.size ≤ 17
        · have h17' : decide ((17 : Int) < (W.size : Int) + P.size) = false := by simp; omega
          have HF : Hid (Rm.uread U.data.toList = Dm.norm (Rm.whole (W.data.toList ++ P.data.toList)) (-(P.size : Int))) := by unfold Hid; rw [HT.out, two_fit hf (.inl h1) h17]
          have hA : (W ++ P).data.toList.all (fun c => Qm.fig c.toNat) = true := by rw [app_list, List.all_append, Rm.figs_all hf, hPf.out]; rfl
          have hAs := app_size W P
          have HN := new_fit hf hPf.out h17 sg
          obtain ⟨b1, b2⟩ := Rm.whole_17 _ hA (by rw [Qm.len_eq]; omega) (W ++ P).data.toList.length
          rw [List.take_of_length_le (Nat.le_refl _)] at b1 b2
          have HA : Hid ((W ++ P).data.toList.all (fun c => Qm.fig c.toNat) = true) := hA
          have HNN : Hid (Dm.new (if sg then -(Rm.whole (W ++ P).data.toList) else Rm.whole (W ++ P).data.toList) (-(P.size : Int)) = Rm.read s.data.toList) := by unfold Hid; rw [HN, HR.out, HF.out]
          clear hA HN
          go_wp2_with fail
          refine (areFigures_any W _ (by omega)).mono ?_
          rintro e w' ⟨rfl, hw⟩
          subst w'
          rw [hf]
          go_wp2_with fail
          refine (wholeOf_any (W ++ P) _ (by omega) HA.out).mono ?_
          rintro e w' ⟨rfl, hw⟩
          subst w'
          generalize Rm.whole (W ++ P).data.toList = n at *
          generalize W ++ P = A at *
          cases hsg : sg
          all_goals
            rw [hsg] at HNN
            go_wp2_with fail
            refine (iDecNew_any _ _ _).mono ?_
            rintro e w2 ⟨rfl, hb2⟩
            have HN2 := HNN.out
            simp only [if_true, if_false, Bool.false_eq_true] at HN2
            rw [HN2]
            have tw2 := Two.below ⟨c0, c1, f0, f1⟩ hb2 (by omega)
            have hB2 : Below w.heap.size w w2 := hB1.trans (hb2.mono (by omega))
            clear c0 c1 f0 f1 hb2 hB1 HNN HN2
            obtain ⟨c0, c1, f0, f1⟩ := tw2
            obtain ⟨nn, hnn⟩ : ∃ nn, nn = Rm.read s.data.toList := ⟨_, rfl⟩
            rw [← hnn]
            have HN3 : Hid (nn = Rm.read s.data.toList) := hnn
            clear hnn
            go_wp2_with fail
            exact bodyPost_ret (v := .tuple #[.agg #[.int .i64 nn.1, .int .i64 nn.2.1], .bool nn.2.2]) (by simp [results, Try.results11, go_sem, c0, c1]) rfl ⟨by rw [← HN3.out], (by (repeat' (first | assumption | exact Below.refl _ _ | refine Below.alloc ?_ ?_ _ | refine Below.setCell ?_ ?_ _ | refine Below.drew ?_ | refine below_drewN ?_ _)) <;> (first | omega | (simp <;> omega)))⟩
        · have h17' : decide ((17 : Int) < (W.size : Int) + P.size) = true := by simp; omega
          have HZ : Hid (Rm.uread U.data.toList = (0, 0, false)) := by unfold Hid; rw [HT.out]; exact two_long h17
          go_wp2_with fail
          refine (areFigures_any W _ (by omega)).mono ?_
          rintro e w' ⟨rfl, hw⟩
          subst w'
          rw [hf]
          go_wp2_with fail
          exact bodyPost_ret (v := .tuple #[.agg #[.int .i64 0, .int .i64 0], .bool false]) (by simp [results, Try.results11, go_sem, c0, c1]) rfl ⟨by rw [ZERO.out HZ.out], (by (repeat' (first | assumption | exact Below.refl _ _ | refine Below.alloc ?_ ?_ _ | refine Below.setCell ?_ ?_ _ | refine Below.drew ?_ | refine below_drewN ?_ _)) <;> (first | omega | (simp <;> omega)))⟩
    · cases hfP : Rm.figs P.data.toList
      · have HZ : Hid (Rm.uread U.data.toList = (0, 0, false)) := by unfold Hid; rw [HR2.out, hpt, hfP]; rfl
        clear HR2 HP HPf hpt
        go_wp2_with fail
        refine (areFigures_any W _ (by omega)).mono ?_
        rintro e w' ⟨rfl, hw⟩
        subst w'
        rw [hf]
        go_wp2_with fail
        refine (areFigures_any P _ (by omega)).mono ?_
        rintro e w' ⟨rfl, hw⟩
        subst w'
        rw [hfP]
        go_wp2_with fail
        exact bodyPost_ret (v := .tuple #[.agg #[.int .i64 0, .int .i64 0], .bool false]) (by simp [results, Try.results11, go_sem, c0, c1]) rfl ⟨by rw [ZERO.out HZ.out], (by (repeat' (first | assumption | exact Below.refl _ _ | refine Below.alloc ?_ ?_ _ | refine Below.setCell ?_ ?_ _ | refine Below.drew ?_ | refine below_drewN ?_ _)) <;> (first | omega | (simp <;> omega)))⟩
      · have HT : Hid (Rm.uread U.data.toList = Rm.two W.data.toList P.data.toList) := by unfold Hid; rw [HR2.out, hpt, hfP]; rfl
        have hPf : Hid (P.data.toList.all (fun c => Qm.fig c.toNat) = true) := Rm.figs_all hfP
        clear HR2 HP HPf hpt
        by_cases h1 : 1 < W.size
        · have h1' : decide ((1 : Int) < W.size) = true := by simp; omega
          by_cases h0 : W[0] = 48
          · have h0' : ((W[0].toNat : Int) == 48) = true := eq_intR h0
            have HZ : Hid (Rm.uread U.data.toList = (0, 0, false)) := by unfold Hid; rw [HT.out]; exact two_lead h1 h0
            clear h0
            go_wp2_with fail
            refine (areFigures_any W _ (by omega)).mono ?_
            rintro e w' ⟨rfl, hw⟩
            subst w'
            rw [hf]
            go_wp2_with fail
            refine (areFigures_any P _ (by omega)).mono ?_
            rintro e w' ⟨rfl, hw⟩
            subst w'
            rw [hfP]
            go_wp2_with fail
            exact bodyPost_ret (v := .tuple #[.agg #[.int .i64 0, .int .i64 0], .bool false]) (by simp [results, Try.results11, go_sem, c0, c1]) rfl ⟨by rw [ZERO.out HZ.out], (by (repeat' (first | assumption | exact Below.refl _ _ | refine Below.alloc ?_ ?_ _ | refine Below.setCell ?_ ?_ _ | refine Below.drew ?_ | refine below_drewN ?_ _)) <;> (first | omega | (simp <;> omega)))⟩
          · have h0' : ((W[0].toNat : Int) == 48) = false := ne_intR h0
            have HD0 : Hid (W.data.toList.getD 0 0 ≠ 48) := by unfold Hid; rw [head_get W (by omega)]; exact h0
            clear h0
            by_cases h17 : W.size + P.size ≤ 17
            · have h17' : decide ((17 : Int) < (W.size : Int) + P.size) = false := by simp; omega
              have HF : Hid (Rm.uread U.data.toList = Dm.norm (Rm.whole (W.data.toList ++ P.data.toList)) (-(P.size : Int))) := by unfold Hid; rw [HT.out, two_fit hf (.inr HD0.out) h17]
              have hA : (W ++ P).data.toList.all (fun c => Qm.fig c.toNat) = true := by rw [app_list, List.all_append, Rm.figs_all hf, hPf.out]; rfl
              have hAs := app_size W P
              have HN := new_fit hf hPf.out h17 sg
              obtain ⟨b1, b2⟩ := Rm.whole_17 _ hA (by rw [Qm.len_eq]; omega) (W ++ P).data.toList.length
              rw [List.take_of_length_le (Nat.le_refl _)] at b1 b2
              have HA : Hid ((W ++ P).data.toList.all (fun c => Qm.fig c.toNat) = true) := hA
              have HNN : Hid (Dm.new (if sg then -(Rm.whole (W ++ P).data.toList) else Rm.whole (W ++ P).data.toList) (-(P.size : Int)) = Rm.read s.data.toList) := by unfold Hid; rw [HN, HR.out, HF.out]
              clear hA HN
              go_wp2_with fail
              refine (areFigures_any W _ (by omega)).mono ?_
              rintro e w' ⟨rfl, hw⟩
              subst w'
              rw [hf]
              go_wp2_with fail
              refine (areFigures_any P _ (by omega)).mono ?_
              rintro e w' ⟨rfl, hw⟩
              subst w'
              rw [hfP]
              go_wp2_with fail
              refine (wholeOf_any (W ++ P) _ (by omega) HA.out).mono ?_
              rintro e w' ⟨rfl, hw⟩
              subst w'
              generalize Rm.whole (W ++ P).data.toList = n at *
              generalize W ++ P = A at *
              cases hsg : sg
              all_goals
                rw [hsg] at HNN
                go_wp2_with fail
                refine (iDecNew_any _ _ _).mono ?_
                rintro e w2 ⟨rfl, hb2⟩
                have HN2 := HNN.out
                simp only [if_true, if_false, Bool.false_eq_true] at HN2
                rw [HN2]
                have tw2 := Two.below ⟨c0, c1, f0, f1⟩ hb2 (by omega)
                have hB2 : Below w.heap.size w w2 := hB1.trans (hb2.mono (by omega))
                clear c0 c1 f0 f1 hb2 hB1 HNN HN2
                obtain ⟨c0, c1, f0, f1⟩ := tw2
                obtain ⟨nn, hnn⟩ : ∃ nn, nn = Rm.read s.data.toList := ⟨_, rfl⟩
                rw [← hnn]
                have HN3 : Hid (nn = Rm.read s.data.toList) := hnn
                clear hnn
                go_wp2_with fail
                exact bodyPost_ret (v := .tuple #[.agg #[.int .i64 nn.1, .int .i64 nn.2.1], .bool nn.2.2]) (by simp [results, Try.results11, go_sem, c0, c1]) rfl ⟨by rw [← HN3.out], (by (repeat' (first | assumption | exact Below.refl _ _ | refine Below.alloc ?_ ?_ _ | refine Below.setCell ?_ ?_ _ | refine Below.drew ?_ | refine below_drewN ?_ _)) <;> (first | omega | (simp <;> omega)))⟩
            · have h17' : decide ((17 : Int) < (W.size : Int) + P.size) = true := by simp; omega
              have HZ : Hid (Rm.uread U.data.toList = (0, 0, false)) := by unfold Hid; rw [HT.out]; exact two_long h17
              go_wp2_with fail
              refine (areFigures_any W _ (by omega)).mono ?_
              rintro e w' ⟨rfl, hw⟩
              subst w'
              rw [hf]
              go_wp2_with fail
              refine (areFigures_any P _ (by omega)).mono ?_
              rintro e w' ⟨rfl, hw⟩
              subst w'
              rw [hfP]
              go_wp2_with fail
              exact bodyPost_ret (v := .tuple #[.agg #[.int .i64 0, .int .i64 0], .bool false]) (by simp [results, Try.results11, go_sem, c0, c1]) rfl ⟨by rw [ZERO.out HZ.out], (by (repeat' (first | assumption | exact Below.refl _ _ | refine Below.alloc ?_ ?_ _ | refine Below.setCell ?_ ?_ _ | refine Below.drew ?_ | refine below_drewN ?_ _)) <;> (first | omega | (simp <;> omega)))⟩
        · have h1' : decide ((1 : Int) < W.size) = false := by simp; omega
          by_cases h17 : W.size + P.size ≤ 17
          · have h17' : decide ((17 : Int) < (W.size : Int) + P.size) = false := by simp; omega
            have HF : Hid (Rm.uread U.data.toList = Dm.norm (Rm.whole (W.data.toList ++ P.data.toList)) (-(P.size : Int))) := by unfold Hid; rw [HT.out, two_fit hf (.inl h1) h17]
            have hA : (W ++ P).data.toList.all (fun c => Qm.fig c.toNat) = true := by rw [app_list, List.all_append, Rm.figs_all hf, hPf.out]; rfl
            have hAs := app_size W P
            have HN := new_fit hf hPf.out h17 sg
            obtain ⟨b1, b2⟩ := Rm.whole_17 _ hA (by rw [Qm.len_eq]; omega) (W ++ P).data.toList.length
            rw [List.take_of_length_le (Nat.le_refl _)] at b1 b2
            have HA : Hid ((W ++ P).data.toList.all (fun c => Qm.fig c.toNat) = true) := hA
            have HNN : Hid (Dm.new (if sg then -(Rm.whole (W ++ P).data.toList) else Rm.whole (W ++ P).data.toList) (-(P.size : Int)) = Rm.read s.data.toList) := by unfold Hid; rw [HN, HR.out, HF.out]
            clear hA HN
            go_wp2_with fail
            refine (areFigures_any W _ (by omega)).mono ?_
            rintro e w' ⟨rfl, hw⟩
            subst w'
            rw [hf]
            go_wp2_with fail
            refine (areFigures_any P _ (by omega)).mono ?_
            rintro e w' ⟨rfl, hw⟩
            subst w'
            rw [hfP]
            go_wp2_with fail
            refine (wholeOf_any (W ++ P) _ (by omega) HA.out).mono ?_
            rintro e w' ⟨rfl, hw⟩
            subst w'
            generalize Rm.whole (W ++ P).data.toList = n at *
            generalize W ++ P = A at *
            cases hsg : sg
            all_goals
              rw [hsg] at HNN
              go_wp2_with fail
              refine (iDecNew_any _ _ _).mono ?_
              rintro e w2 ⟨rfl, hb2⟩
              have HN2 := HNN.out
              simp only [if_true, if_false, Bool.false_eq_true] at HN2
              rw [HN2]
              have tw2 := Two.below ⟨c0, c1, f0, f1⟩ hb2 (by omega)
              have hB2 : Below w.heap.size w w2 := hB1.trans (hb2.mono (by omega))
              clear c0 c1 f0 f1 hb2 hB1 HNN HN2
              obtain ⟨c0, c1, f0, f1⟩ := tw2
              obtain ⟨nn, hnn⟩ : ∃ nn, nn = Rm.read s.data.toList := ⟨_, rfl⟩
              rw [← hnn]
              have HN3 : Hid (nn = Rm.read s.data.toList) := hnn
              clear hnn
              go_wp2_with fail
              exact bodyPost_ret (v := .tuple #[.agg #[.int .i64 nn.1, .int .i64 nn.2.1], .bool nn.2.2]) (by simp [results, Try.results11, go_sem, c0, c1]) rfl ⟨by rw [← HN3.out], (by (repeat' (first | assumption | exact Below.refl _ _ | refine Below.alloc ?_ ?_ _ | refine Below.setCell ?_ ?_ _ | refine Below.drew ?_ | refine below_drewN ?_ _)) <;> (first | omega | (simp <;> omega)))⟩
          · have h17' : decide ((17 : Int) < (W.size : Int) + P.size) = true := by simp; omega
            have HZ : Hid (Rm.uread U.data.toList = (0, 0, false)) := by unfold Hid; rw [HT.out]; exact two_long h17
            go_wp2_with fail
            refine (areFigures_any W _ (by omega)).mono ?_
            rintro e w' ⟨rfl, hw⟩
            subst w'
            rw [hf]
            go_wp2_with fail
            refine (areFigures_any P _ (by omega)).mono ?_
            rintro e w' ⟨rfl, hw⟩
            subst w'
            rw [hfP]
            go_wp2_with fail
            exact bodyPost_ret (v := .tuple #[.agg #[.int .i64 0, .int .i64 0], .bool false]) (by simp [results, Try.results11, go_sem, c0, c1]) rfl ⟨by rw [ZERO.out HZ.out], (by (repeat' (first | assumption | exact Below.refl _ _ | refine Below.alloc ?_ ?_ _ | refine Below.setCell ?_ ?_ _ | refine Below.drew ?_ | refine below_drewN ?_ _)) <;> (first | omega | (simp <;> omega)))⟩
end Go.Proofs.Ytldlfmehplemiaa
