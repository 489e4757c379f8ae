/- My own texts, joined: Jk Ic Id Ie Ij Ik Il In FoO. -/
import Derived.Test.YtpgpkdeiapeoiaaJIniPut10
import Derived.Test.YtpgpkdeiapeoiaaJIniPut0
import Derived.Test.YtpgpkdeiapeoiaaJIniPut11
import Derived.Test.YtpgpkdeiapeoiaaJIniPut4
import Derived.Deep.Slices
import Derived.OpenShut
/- Values as JSON, by the specification: l7Put, JsonPut. -/
namespace Go.Proofs.Ytpgpkdeiapeoiaa
open Go.RowKit
theorem str_eq {a b : ByteArray} (h : a.data.toList = b.data.toList) : Value.string a = .string b := by
  have : a = b := by cases a; cases b; simpa using h
  rw [this]
def SPut (N : Nat) : Prop := ∀ (h : Hd) (a : Option Addr) (c : Nat) (F : Vo) (w : World), F.size < N → N ≤ 490 → FitJ h F → F.In w a → F.len ≤ c → c ≤ maxLen → h.In w →
  Calls Try.prog 21 #[valV h a F.len c] w fun r w' => r = .returned (.string ⟨(jtext [] [] N h F []).toArray⟩) ∧ Below w.heap.size w w'
set_option linter.unusedSimpArgs false in
set_option maxRecDepth 100000 in
set_option maxHeartbeats 2000000 in
theorem l7Put_step (N : Nat) (H : SPut N) : SPut (N + 1) := by
  intro h a c F w hF hN hfit hin hl hc hh
  obtain ⟨k, m, e, t, na, nc, ns⟩ := h
  have hone := oneJ hfit.1
  dsimp only at hone
  obtain ⟨⟨k0, k6⟩, k3, k4, k66, k44⟩ := hone
  have HK := hideIt (And.intro k3 (And.intro k4 k66))
  clear k3 k4 k66 k44
  obtain rfl | rfl | rfl | rfl | rfl | rfl | rfl : k = 0 ∨ k = 1 ∨ k = 2 ∨ k = 3 ∨ k = 4 ∨ k = 5 ∨ k = 6 := by omega
  · clear k0 k6
    clear hfit hin hh H HK
    go_enter Try.func21, Try.ntmps21
    go_wp2_with fail
    go_ret
    exact ⟨rfl, (Below.refl _ w).alloc (Nat.le_refl _) _⟩
  · clear k0 k6
    clear hfit hin hh H HK
    go_enter Try.func21, Try.ntmps21
    go_wp2_with fail
    go_ret
    exact ⟨rfl, (Below.refl _ w).alloc (Nat.le_refl _) _⟩
  · clear k0 k6
    clear hfit hin hh H HK
    go_enter Try.func21, Try.ntmps21
    go_wp2_with fail
    go_ret
    exact ⟨rfl, (Below.refl _ w).alloc (Nat.le_refl _) _⟩
  · clear k0 k6
    have ho := (Dm.ok_iff m e).1 (HK.out.1 rfl)
    have HT : Hid (jtext [] [] (N + 1) ⟨3, m, e, t, na, nc, ns⟩ F [] = Tm.text m e) := rfl
    have HB := hideIt ho
    clear hfit hin hh H HK ho
    go_enter Try.func21, Try.ntmps21
    go_wp2_with fail
    refine (l1Text_any m e _ (by have := HB.out; omega) (by have := HB.out; omega) (by have := HB.out; omega) (by have := HB.out; omega)).mono ?_
    rintro r w1 ⟨rfl, hb1⟩
    have hB1 := ((Below.refl _ w).alloc (Nat.le_refl _) (.cells #[.int .i64 3, .int .i64 m, .int .i64 e, .string t, .slice a F.len c, .slice na ns.length nc] 33)).trans (hb1.mono (by simp))
    clear hb1
    go_wp2_with fail
    go_ret
    exact ⟨by rw [HT.out]; rfl, hB1⟩
  · clear k0 k6
    have hts := HK.out.2.1 rfl
    have HT : Hid (jtext [] [] (N + 1) ⟨4, m, e, t, na, nc, ns⟩ F [] = Qm.jquote t.data.toList) := rfl
    clear hfit hin hh H HK
    go_enter Try.func21, Try.ntmps21
    go_wp2_with fail
    refine (l7Quote_any t _ (by omega)).mono ?_
    rintro r w1 ⟨rfl, hb1⟩
    have hB1 := ((Below.refl _ w).alloc (Nat.le_refl _) (.cells #[.int .i64 4, .int .i64 m, .int .i64 e, .string t, .slice a F.len c, .slice na ns.length nc] 33)).trans (hb1.mono (by simp))
    clear hb1
    go_wp2_with fail
    go_ret
    exact ⟨by rw [HT.out]; rfl, hB1⟩
  · clear k0 k6
    have hll := F.len_le
    obtain ⟨n, hn⟩ : ∃ n, F.len = n := ⟨_, rfl⟩
    have HNl := hideIt hn
    have HT : Hid (jtext [] [] (N + 1) ⟨5, m, e, t, na, nc, ns⟩ F [] = [91] ++ (jitems [] [] (jtext [] [] N) false [] F [] n ++ [93])) := by
      unfold Hid jtext jinner
      rw [← hn]
      have : (if F.len = 0 then ([] : List UInt8) else []) = [] := by split <;> rfl
      simp [this]
    have HLn : Hid (∀ j, j ≤ n → (jitems [] [] (jtext [] [] N) false [] F [] j).length ≤ 13000 * F.sumJ j) := by
      unfold Hid
      rw [← hn]
      exact jitems_len (by simp) (by simp) (by simp) (fun i hi => jtext_len (by simp) (by simp) N _ _ _ (by simp only [List.append_nil, List.length_nil]; omega) (fitJ_at hi hfit.2)) false (fun e i => by cases e)
    have HS : Hid (∀ j, j ≤ n → F.sumJ j ≤ F.size) := fun j hj => by
      have h1 := sumJ_le F (i := j) (n := F.len) (by omega)
      rw [sumJ_len] at h1
      exact h1
    obtain ⟨wp, hwp⟩ : ∃ wp, wp = w.alloc (.cells #[.int .i64 5, .int .i64 m, .int .i64 e, .string t, .slice a F.len c, .slice na ns.length nc] 33) := ⟨_, rfl⟩
    have hBp : Below w.heap.size w wp := by subst hwp; exact (Below.refl _ w).alloc (Nat.le_refl _) _
    have hA : BxV w.heap.size ⟨5, m, e, t, na, nc, ns⟩ (.slice a F.len c) wp := by subst hwp; exact BxV.new w ⟨5, m, e, t, na, nc, ns⟩ _ _
    have HX : Hid (∀ W, Below wp.heap.size wp W → BxV w.heap.size ⟨5, m, e, t, na, nc, ns⟩ (.slice a n c) W) := fun W hW => by rw [← hn]; exact hA.below hW
    have HI : Hid ((∀ W, Below wp.heap.size wp W → F.In W a ∧ Below w.heap.size w W) ∧ F.allOne) := ⟨fun W hW => ⟨hin.grow (hBp.trans (hW.mono hBp.size)), hBp.trans (hW.mono hBp.size)⟩, hfit.2⟩
    have HW := hideIt hwp
    have hzp := hBp.size
    rw [hn] at hl hll ⊢
    clear hwp hA hBp hin hfit hh HK hn
    go_enter Try.func21, Try.ntmps21
    go_wp2_with fail
    rw [HNl.out] at HW
    rw [← HW.out]
    clear HW
    go_loopw [3, 4] (fun o i wr => ∃ j : Nat, i = .int .i64 j ∧ j ≤ n ∧ o = .string ⟨(jitems [] [] (jtext [] [] N) false [] F [] j).toArray⟩ ∧ Below wp.heap.size wp wr) (fun _ i _ => n - (intOf i).toNat)
    case atStart => exact ⟨0, rfl, Nat.zero_le _, rfl, Below.refl _ _⟩
    case round =>
      obtain ⟨j, rfl, hj, rfl, hb⟩ := hrel
      obtain ⟨x0, x1, x2, x3, x4, x5⟩ := HX.out _ hb
      have hlj := HLn.out j hj
      have hsj := HS.out j hj
      by_cases hjn : j < n
      case neg =>
        have ej : j = n := by omega
        subst ej
        obtain ⟨A, hA⟩ : ∃ A, A = jitems [] [] (jtext [] [] N) false [] F [] j := ⟨_, rfl⟩
        have HT2 : Hid (jtext [] [] (N + 1) ⟨5, m, e, t, na, nc, ns⟩ F [] = [91] ++ (A ++ [93])) := by rw [hA]; exact HT.out
        rw [← hA] at hlj ⊢
        clear hA HT hjn hj
        have hq := arr_size A
        have hbe := (HI.out.1 _ hb).2
        go_wp2_with fail
        go_ret
        exact ⟨by rw [HT2.out]; exact ret_str (by simp [ByteArray.data_append]), hbe⟩
      have hjF : j < F.len := by rw [HNl.out]; exact hjn
      have hjl : (j : Int) < (n : Int) := by omega
      have hs1 := HS.out (j + 1) hjn
      have hs1' : F.sumJ j + ((F.kidsAt j).size + 1) ≤ F.size := hs1
      obtain ⟨b, o', rfl, hFr⟩ := Vo.from_of_len (HI.out.1 _ (Below.refl _ _)).1 hjF
      obtain ⟨⟨c0, c1, c2, c3, c4, c5⟩, ck, ⟨cc1, cc2⟩, ch⟩ := Vo.from_at (Vo.from_grow hb F b o' hFr) hjF
      have HF : Hid (FitJ (F.hdAt j) (F.kidsAt j)) := fitJ_at hjF HI.out.2
      have hklen := jtext_len (step := []) (gap := []) (by simp) (by simp) N (F.hdAt j) (F.kidsAt j) [] (by simp only [List.length_nil]; omega) HF.out
      have HP : Hid (jitems [] [] (jtext [] [] N) false [] F [] (j + 1) = jitems [] [] (jtext [] [] N) false [] F [] j ++ ((if j = 0 then [] else [44]) ++ ((([] : List UInt8) ++ []) ++ ((if false then Qm.jquote (nameAt [] j).data.toList ++ ([58] ++ []) else []) ++ jtext [] [] N (F.hdAt j) (F.kidsAt j) ([] ++ []))))) := rfl
      have HKid : Hid (((F.kidsAt j).In wp (F.addrAt j) ∧ (F.hdAt j).In wp)) := by
        obtain ⟨_, x2, _, x4⟩ := Vo.from_at hFr hjF
        exact ⟨x2, x4⟩
      clear ck ch
      rw [List.append_nil] at HP
      obtain ⟨A, hA⟩ : ∃ A, A = jitems [] [] (jtext [] [] N) false [] F [] j := ⟨_, rfl⟩
      rw [← hA] at hlj HP ⊢
      clear hA HT
      generalize F.hdAt j = xh at *
      generalize F.kidsAt j = xk at *
      generalize F.addrAt j = xa at *
      generalize F.capAt j = xc at *
      have HCk := hideIt (And.intro c0 (And.intro c1 (And.intro c2 (And.intro c3 (And.intro c4 c5)))))
      have hq := arr_size A
      have hqk := arr_size (jtext [] [] N xh xk [])
      by_cases hj0 : j = 0
      · have hj0' : ¬ 0 < j := by omega
        have HJ0 := hideIt hj0
        clear hj0
        go_wp2_with fail
        have hj0 := HJ0.out
        clear HJ0 hj0'
        subst hj0
        have hB1 := hb
        refine (H xh xa xc xk _ (by omega) (by omega) HF.out (HKid.out.1.grow hB1) cc1 cc2 (HKid.out.2.grow hB1)).mono ?_
        rintro r w2 ⟨rfl, hb2⟩
        have hB2 := hB1.trans (hb2.mono hB1.size)
        clear x0 x1 x2 x3 x4 x5 c0 c1 c2 c3 c4 c5
        go_wp2_with fail
        go_round
        case rel =>
          refine ⟨0 + 1, by go_num, by omega, ?_, hB2⟩
          rw [HP.out]
          exact str_eq (by simp [ByteArray.data_append])
        case measure => simp [intOf]; omega
      · have hj0' : 0 < j := by omega
        have HJ0 := hideIt hj0
        clear hj0
        go_wp2_with fail
        have hB1 := hb
        refine (H xh xa xc xk _ (by omega) (by omega) HF.out (HKid.out.1.grow hB1) cc1 cc2 (HKid.out.2.grow hB1)).mono ?_
        rintro r w2 ⟨rfl, hb2⟩
        have hB2 := hB1.trans (hb2.mono hB1.size)
        clear x0 x1 x2 x3 x4 x5 c0 c1 c2 c3 c4 c5
        go_wp2_with fail
        go_round
        case rel =>
          refine ⟨j + 1, by go_num, by omega, ?_, hB2⟩
          rw [HP.out]
          exact str_eq (by simp [ByteArray.data_append, HJ0.out])
        case measure => simp [intOf]; omega
  · clear k0 k6
    have hll := F.len_le
    obtain ⟨n, hn⟩ : ∃ n, F.len = n := ⟨_, rfl⟩
    have HNl := hideIt hn
    have HT : Hid (jtext [] [] (N + 1) ⟨6, m, e, t, na, nc, ns⟩ F [] = [123] ++ (jitems [] [] (jtext [] [] N) true ns F [] n ++ [125])) := by
      unfold Hid jtext jinner
      rw [← hn]
      have : (if F.len = 0 then ([] : List UInt8) else []) = [] := by split <;> rfl
      simp [this]
    have HLn : Hid (∀ j, j ≤ n → (jitems [] [] (jtext [] [] N) true ns F [] j).length ≤ 13000 * F.sumJ j) := by
      unfold Hid
      rw [← hn]
      exact jitems_len (by simp) (by simp) (by simp) (fun i hi => jtext_len (by simp) (by simp) N _ _ _ (by simp only [List.append_nil, List.length_nil]; omega) (fitJ_at hi hfit.2)) true (fun e i => asc_short (HK.out.2.2 rfl).2 i)
    have HS : Hid (∀ j, j ≤ n → F.sumJ j ≤ F.size) := fun j hj => by
      have h1 := sumJ_le F (i := j) (n := F.len) (by omega)
      rw [sumJ_len] at h1
      exact h1
    obtain ⟨wp, hwp⟩ : ∃ wp, wp = w.alloc (.cells #[.int .i64 6, .int .i64 m, .int .i64 e, .string t, .slice a F.len c, .slice na ns.length nc] 33) := ⟨_, rfl⟩
    have hBp : Below w.heap.size w wp := by subst hwp; exact (Below.refl _ w).alloc (Nat.le_refl _) _
    have hA : BxV w.heap.size ⟨6, m, e, t, na, nc, ns⟩ (.slice a F.len c) wp := by subst hwp; exact BxV.new w ⟨6, m, e, t, na, nc, ns⟩ _ _
    have HX : Hid (∀ W, Below wp.heap.size wp W → BxV w.heap.size ⟨6, m, e, t, na, nc, ns⟩ (.slice a n c) W) := fun W hW => by rw [← hn]; exact hA.below hW
    have HI : Hid ((∀ W, Below wp.heap.size wp W → F.In W a ∧ Below w.heap.size w W) ∧ F.allOne) := ⟨fun W hW => ⟨hin.grow (hBp.trans (hW.mono hBp.size)), hBp.trans (hW.mono hBp.size)⟩, hfit.2⟩
    have HNm : Hid ((ns.length = F.len ∧ ∀ i, (nameAt ns i).size ≤ 12) ∧ ∀ W, Below wp.heap.size wp W → SIn W ns na) := ⟨⟨(HK.out.2.2 rfl).1, fun i => asc_short (HK.out.2.2 rfl).2 i⟩, fun W hW => hh.1.grow (hBp.trans (hW.mono hBp.size))⟩
    have HW := hideIt hwp
    have hzp := hBp.size
    rw [hn] at hl hll ⊢
    clear hwp hA hBp hin hfit hh HK hn
    go_enter Try.func21, Try.ntmps21
    go_wp2_with fail
    rw [HNl.out] at HW
    rw [← HW.out]
    clear HW
    go_loopw [3, 4] (fun o i wr => ∃ j : Nat, i = .int .i64 j ∧ j ≤ n ∧ o = .string ⟨(jitems [] [] (jtext [] [] N) true ns F [] j).toArray⟩ ∧ Below wp.heap.size wp wr) (fun _ i _ => n - (intOf i).toNat)
    case atStart => exact ⟨0, rfl, Nat.zero_le _, rfl, Below.refl _ _⟩
    case round =>
      obtain ⟨j, rfl, hj, rfl, hb⟩ := hrel
      obtain ⟨x0, x1, x2, x3, x4, x5⟩ := HX.out _ hb
      have hlj := HLn.out j hj
      have hsj := HS.out j hj
      by_cases hjn : j < n
      case neg =>
        have ej : j = n := by omega
        subst ej
        obtain ⟨A, hA⟩ : ∃ A, A = jitems [] [] (jtext [] [] N) true ns F [] j := ⟨_, rfl⟩
        have HT2 : Hid (jtext [] [] (N + 1) ⟨6, m, e, t, na, nc, ns⟩ F [] = [123] ++ (A ++ [125])) := by rw [hA]; exact HT.out
        rw [← hA] at hlj ⊢
        clear hA HT hjn hj
        have hq := arr_size A
        have hbe := (HI.out.1 _ hb).2
        go_wp2_with fail
        go_ret
        exact ⟨by rw [HT2.out]; exact ret_str (by simp [ByteArray.data_append]), hbe⟩
      have hjF : j < F.len := by rw [HNl.out]; exact hjn
      have hjl : (j : Int) < (n : Int) := by omega
      have hs1 := HS.out (j + 1) hjn
      have hs1' : F.sumJ j + ((F.kidsAt j).size + 1) ≤ F.size := hs1
      obtain ⟨b, o', rfl, hFr⟩ := Vo.from_of_len (HI.out.1 _ (Below.refl _ _)).1 hjF
      obtain ⟨⟨c0, c1, c2, c3, c4, c5⟩, ck, ⟨cc1, cc2⟩, ch⟩ := Vo.from_at (Vo.from_grow hb F b o' hFr) hjF
      have HF : Hid (FitJ (F.hdAt j) (F.kidsAt j)) := fitJ_at hjF HI.out.2
      have hklen := jtext_len (step := []) (gap := []) (by simp) (by simp) N (F.hdAt j) (F.kidsAt j) [] (by simp only [List.length_nil]; omega) HF.out
      have HP : Hid (jitems [] [] (jtext [] [] N) true ns F [] (j + 1) = jitems [] [] (jtext [] [] N) true ns F [] j ++ ((if j = 0 then [] else [44]) ++ ((([] : List UInt8) ++ []) ++ ((if true then Qm.jquote (nameAt ns j).data.toList ++ ([58] ++ []) else []) ++ jtext [] [] N (F.hdAt j) (F.kidsAt j) ([] ++ []))))) := rfl
      have HKid : Hid (((F.kidsAt j).In wp (F.addrAt j) ∧ (F.hdAt j).In wp)) := by
        obtain ⟨_, x2, _, x4⟩ := Vo.from_at hFr hjF
        exact ⟨x2, x4⟩
      clear ck ch
      rw [List.append_nil] at HP
      obtain ⟨A, hA⟩ : ∃ A, A = jitems [] [] (jtext [] [] N) true ns F [] j := ⟨_, rfl⟩
      rw [← hA] at hlj HP ⊢
      clear hA HT
      generalize F.hdAt j = xh at *
      generalize F.kidsAt j = xk at *
      generalize F.addrAt j = xa at *
      generalize F.capAt j = xc at *
      have HCk := hideIt (And.intro c0 (And.intro c1 (And.intro c2 (And.intro c3 (And.intro c4 c5)))))
      have hq := arr_size A
      have hcl := HNm.out.1.2 j
      have hqn := arr_size (Qm.jquote (nameAt ns j).data.toList)
      have hql := Qm.jquote_length (nameAt ns j).data.toList
      rw [Qm.len_eq] at hql
      have hsn := nameAt_some (ns := ns) (i := j) (by rw [HNm.out.1.1]; exact hjF)
      obtain ⟨nb, no, e1, e3⟩ : ∃ nb no, na = some ⟨nb, no, none⟩ ∧ wr.cell? ⟨nb, no + j, none⟩ = some (.string (nameAt ns j)) := by
        rcases HNm.out.2 _ hb with e | ⟨nb, no, e, hS⟩
        · rw [e] at hsn; simp at hsn
        · exact ⟨nb, no, e, (hS.at hsn).1⟩
      subst e1
      have hjn2 : (j : Int) < (ns.length : Int) := by rw [HNm.out.1.1, HNl.out]; exact hjl
      clear hsn
      have hqk := arr_size (jtext [] [] N xh xk [])
      by_cases hj0 : j = 0
      · have hj0' : ¬ 0 < j := by omega
        have HJ0 := hideIt hj0
        clear hj0
        go_wp2_with fail
        have hj0 := HJ0.out
        clear HJ0 hj0'
        subst hj0
        refine (l7Quote_any _ _ (by omega)).mono ?_
        rintro r w1 ⟨rfl, hb1⟩
        have hB1 := hb.trans (hb1.mono hb.size)
        clear x0 x1 x2 x3 x4 x5 c0 c1 c2 c3 c4 c5 e3
        obtain ⟨x0, x1, x2, x3, x4, x5⟩ := HX.out _ hB1
        obtain ⟨c0, c1, c2, c3, c4, c5⟩ : Cells6 w1 b (o') xh (.slice xa xk.len xc) := (show Cells6 wr b (o') xh (.slice xa xk.len xc) from HCk.out).grow hb1
        go_wp2_with fail
        refine (H xh xa xc xk _ (by omega) (by omega) HF.out (HKid.out.1.grow hB1) cc1 cc2 (HKid.out.2.grow hB1)).mono ?_
        rintro r w2 ⟨rfl, hb2⟩
        have hB2 := hB1.trans (hb2.mono hB1.size)
        clear x0 x1 x2 x3 x4 x5 c0 c1 c2 c3 c4 c5
        go_wp2_with fail
        go_round
        case rel =>
          refine ⟨0 + 1, by go_num, by omega, ?_, hB2⟩
          rw [HP.out]
          exact str_eq (by simp [ByteArray.data_append])
        case measure => simp [intOf]; omega
      · have hj0' : 0 < j := by omega
        have HJ0 := hideIt hj0
        clear hj0
        go_wp2_with fail
        refine (l7Quote_any _ _ (by omega)).mono ?_
        rintro r w1 ⟨rfl, hb1⟩
        have hB1 := hb.trans (hb1.mono hb.size)
        clear x0 x1 x2 x3 x4 x5 c0 c1 c2 c3 c4 c5 e3
        obtain ⟨x0, x1, x2, x3, x4, x5⟩ := HX.out _ hB1
        obtain ⟨c0, c1, c2, c3, c4, c5⟩ : Cells6 w1 b (o' + j * 6) xh (.slice xa xk.len xc) := (show Cells6 wr b (o' + j * 6) xh (.slice xa xk.len xc) from HCk.out).grow hb1
        go_wp2_with fail
        refine (H xh xa xc xk _ (by omega) (by omega) HF.out (HKid.out.1.grow hB1) cc1 cc2 (HKid.out.2.grow hB1)).mono ?_
        rintro r w2 ⟨rfl, hb2⟩
        have hB2 := hB1.trans (hb2.mono hB1.size)
        clear x0 x1 x2 x3 x4 x5 c0 c1 c2 c3 c4 c5
        go_wp2_with fail
        go_round
        case rel =>
          refine ⟨j + 1, by go_num, by omega, ?_, hB2⟩
          rw [HP.out]
          exact str_eq (by simp [ByteArray.data_append, HJ0.out])
        case measure => simp [intOf]; omega
theorem l7Put_all (N : Nat) : SPut N := by
  induction N with
  | zero => intro h a c F w hF; omega
  | succ N ih => exact l7Put_step N ih
end Go.Proofs.Ytpgpkdeiapeoiaa
/- Values as lines, by the specification: the region of l12Toml that draws. -/
namespace Go.Proofs.Ytpgpkdeiapeoiaa
open Go.RowKit
set_option maxRecDepth 100000 in
set_option maxHeartbeats 1000000 in
theorem tm6 {Q : Exit → Act → World → Prop} {t0 t1 t3 t4 t7 t8 t9 t10 t11 t12 t13 t14 t15 t16 t17 t18 t19 t20 t21 t22 t23 t24 t25 t26 t27 t28 t29 t30 t31 t32 t33 t34 t35 t36 t37 t38 t39 t40 t41 t42 t43 t44 t45 t46 t47 t48 t49 t50 t51 t52 t53 t54 t55 t56 t57 t58 t59 t60 t61 t62 t63 t64 t65 t66 t67 t68 t69 t70 t71 t72 t73 t74 : Value} {W : World} {vb b o' nb no j n c : Nat} {h xh : Hd} {xa : Option Addr} {xk : Vo} {xc : Nat} {out nm tx : ByteArray}
    (hA : BxV vb h (.slice (some ⟨b, o', none⟩) n c) W) (hC : Cells6 W b (o' + j * 6) xh (.slice xa xk.len xc)) (hN : W.cell? ⟨nb, no + j, none⟩ = some (.string nm)) (hna : h.na = some ⟨nb, no, none⟩) (hjn : (j : Int) < (n : Int)) (hjm : (j : Int) < (h.ns.length : Int)) (hz : out.size + nm.size + tx.size + 4 ≤ 100000000) (hcall : ∀ W', Below W.heap.size W W' → Calls Try.prog 21 #[valV xh xa xk.len xc] W' fun r w' => r = .returned (.string tx) ∧ Below W'.heap.size W' w')
    (hp : ∀ p d v a w, Q (.panic p) (Act.put a d v) w → Q (.panic p) a w) (h_ : ∀ ws v23 v24 v25 v26 v27 v28 v29 v30 v31 v32 v33 v34 v35 v36 v37 v38, Below W.heap.size W ws → Q .normal { tmps := (t0 :: t1 :: (.pointer (some ⟨vb, 0, none⟩)) :: t3 :: t4 :: (.string (out ++ nm ++ ⟨#[32, 61, 32]⟩ ++ tx ++ ⟨#[10]⟩)) :: (.int .i64 (j : Int)) :: t7 :: t8 :: t9 :: t10 :: t11 :: t12 :: t13 :: t14 :: t15 :: t16 :: t17 :: t18 :: t19 :: t20 :: t21 :: t22 :: v23 :: v24 :: v25 :: v26 :: v27 :: v28 :: v29 :: v30 :: v31 :: v32 :: v33 :: v34 :: v35 :: v36 :: v37 :: v38 :: t39 :: t40 :: t41 :: t42 :: t43 :: t44 :: t45 :: t46 :: t47 :: t48 :: t49 :: t50 :: t51 :: t52 :: t53 :: t54 :: t55 :: t56 :: t57 :: t58 :: t59 :: t60 :: t61 :: t62 :: t63 :: t64 :: t65 :: t66 :: t67 :: t68 :: t69 :: t70 :: t71 :: t72 :: t73 :: t74 :: []).toArray, defers := [] } ws) :
    Code.wp Try.prog (Code.region 6 #[{ dst := some 23, op := Op.move (Operand.tmp 5), type := 9, pos := "l12_out.go:66", after := #[], guard := none }, { dst := some 24, op := Op.fieldAddr 33 (Operand.tmp 2) 4, type := 0, pos := "l12_out.go:66", after := #[], guard := none }, { dst := some 25, op := Op.load 25 (Operand.tmp 24), type := 25, pos := "l12_out.go:66", after := #[{ on := 1, ground := Ground.data }], guard := none }, { dst := some 26, op := Op.move (Operand.tmp 6), type := 3, pos := "l12_out.go:66", after := #[], guard := none }, { dst := some 27, op := Op.indexAddr 25 (Operand.tmp 25) (Operand.tmp 26), type := 0, pos := "l12_out.go:66", after := #[{ on := 2, ground := Ground.data }, { on := 3, ground := Ground.data }], guard := none }, { dst := some 28, op := Op.load 9 (Operand.tmp 27), type := 9, pos := "l12_out.go:66", after := #[{ on := 4, ground := Ground.data }], guard := none }, { dst := some 29, op := Op.binOp BinOp.add 9 (Operand.tmp 23) (Operand.tmp 28) 9, type := 9, pos := "l12_out.go:66", after := #[{ on := 0, ground := Ground.data }, { on := 5, ground := Ground.data }], guard := none }, { dst := some 30, op := Op.binOp BinOp.add 9 (Operand.tmp 29) (Operand.const (Value.string { data := #[32, 61, 32] })) 9, type := 9, pos := "l12_out.go:66", after := #[{ on := 6, ground := Ground.data }], guard := none }, { dst := some 31, op := Op.fieldAddr 33 (Operand.tmp 2) 3, type := 0, pos := "l12_out.go:66", after := #[], guard := none }, { dst := some 32, op := Op.load 31 (Operand.tmp 31), type := 31, pos := "l12_out.go:66", after := #[{ on := 8, ground := Ground.data }], guard := none }, { dst := some 33, op := Op.move (Operand.tmp 6), type := 3, pos := "l12_out.go:66", after := #[], guard := none }, { dst := some 34, op := Op.indexAddr 31 (Operand.tmp 32) (Operand.tmp 33), type := 0, pos := "l12_out.go:66", after := #[{ on := 9, ground := Ground.data }, { on := 10, ground := Ground.data }], guard := none }, { dst := some 35, op := Op.load 33 (Operand.tmp 34), type := 33, pos := "l12_out.go:66", after := #[{ on := 11, ground := Ground.data }], guard := none }, { dst := some 36, op := Op.call { callee := Callee.value (Operand.func 21), args := #[Operand.tmp 35], argTypes := #[33] }, type := 9, pos := "l12_out.go:66", after := #[{ on := 12, ground := Ground.data }], guard := none }, { dst := some 37, op := Op.binOp BinOp.add 9 (Operand.tmp 30) (Operand.tmp 36) 9, type := 9, pos := "l12_out.go:66", after := #[{ on := 7, ground := Ground.data }, { on := 13, ground := Ground.data }], guard := none }, { dst := some 38, op := Op.binOp BinOp.add 9 (Operand.tmp 37) (Operand.const (Value.string { data := #[10] })) 9, type := 9, pos := "l12_out.go:66", after := #[{ on := 14, ground := Ground.data }], guard := none }, { dst := some 5, op := Op.assign (Operand.tmp 38), type := 9, pos := "l12_out.go:66", after := #[{ on := 15, ground := Ground.data }, { on := 13, ground := Ground.chain }, { on := 0, ground := Ground.phase }, { on := 1, ground := Ground.phase }, { on := 2, ground := Ground.phase }, { on := 3, ground := Ground.phase }, { on := 4, ground := Ground.phase }, { on := 5, ground := Ground.phase }, { on := 6, ground := Ground.phase }, { on := 7, ground := Ground.phase }, { on := 8, ground := Ground.phase }, { on := 9, ground := Ground.phase }, { on := 10, ground := Ground.phase }, { on := 11, ground := Ground.phase }, { on := 12, ground := Ground.phase }, { on := 13, ground := Ground.phase }, { on := 14, ground := Ground.phase }, { on := 15, ground := Ground.phase }], guard := none }] true) Q { tmps := (t0 :: t1 :: (.pointer (some ⟨vb, 0, none⟩)) :: t3 :: t4 :: (.string out) :: (.int .i64 (j : Int)) :: t7 :: t8 :: t9 :: t10 :: t11 :: t12 :: t13 :: t14 :: t15 :: t16 :: t17 :: t18 :: t19 :: t20 :: t21 :: t22 :: t23 :: t24 :: t25 :: t26 :: t27 :: t28 :: t29 :: t30 :: t31 :: t32 :: t33 :: t34 :: t35 :: t36 :: t37 :: t38 :: t39 :: t40 :: t41 :: t42 :: t43 :: t44 :: t45 :: t46 :: t47 :: t48 :: t49 :: t50 :: t51 :: t52 :: t53 :: t54 :: t55 :: t56 :: t57 :: t58 :: t59 :: t60 :: t61 :: t62 :: t63 :: t64 :: t65 :: t66 :: t67 :: t68 :: t69 :: t70 :: t71 :: t72 :: t73 :: t74 :: []).toArray, defers := [] } W := by
  have HSof : Hid (∀ w', Below W.heap.size W w' → (BxV vb h (.slice (some ⟨b, o', none⟩) n c) w' ∧ Cells6 w' b (o' + j * 6) xh (.slice xa xk.len xc)) ∧ w'.cell? ⟨nb, no + j, none⟩ = some (.string nm)) := fun w' h => ⟨⟨hA.below h, hC.grow h⟩, (h.cell (World.block_lt_of_cell? W _ hN)).trans hN⟩
  have hB0 := (Below.refl W.heap.size W).drew
  have hS0 := HSof.out _ hB0
  obtain ⟨hk, hm, he, ht, hna', hnc, hns⟩ := h
  dsimp only at hna hjm
  subst hna
  clear hA hC hN
  refine wp_region_held_drew (S := fun w' => (BxV vb ⟨hk, hm, he, ht, some ⟨nb, no, none⟩, hnc, hns⟩ (.slice (some ⟨b, o', none⟩) n c) w' ∧ Cells6 w' b (o' + j * 6) xh (.slice xa xk.len xc)) ∧ w'.cell? ⟨nb, no + j, none⟩ = some (.string nm)) (by kernel_rfl) hS0 (fun hHeld => ?_)
  refine wpAnyH_take (i := 0) (v := .string out) rfl (by kernel_rfl) (by kernel_rfl) (by kernel_rfl) (fun _ _ _ h => hp _ _ _ _ _ h) (Or.inl ⟨by rfl, ?_⟩) (by assumption) ?_
  · intro w hSw
    (try dsimp only at hSw)
    go_simp
  (try simp only [Act.put, List.getElem_toArray, List.getElem_cons_zero, List.setIfInBounds_toArray, List.set_cons_zero, List.set_cons_succ])
  refine wpAnyH_take (i := 1) (v := .pointer (some ⟨vb, 5, none⟩)) rfl (by kernel_rfl) (by kernel_rfl) (by kernel_rfl) (fun _ _ _ h => hp _ _ _ _ _ h) (Or.inl ⟨by rfl, ?_⟩) (by assumption) ?_
  · intro w hSw
    (try dsimp only at hSw)
    go_simp
  (try simp only [Act.put, List.getElem_toArray, List.getElem_cons_zero, List.getElem_cons_succ, List.setIfInBounds_toArray, List.set_cons_zero, List.set_cons_succ])
  refine wpAnyH_take (i := 2) (v := .slice (some ⟨nb, no, none⟩) hns.length hnc) rfl (by kernel_rfl) (by kernel_rfl) (by kernel_rfl) (fun _ _ _ h => hp _ _ _ _ _ h) (Or.inl ⟨by rfl, ?_⟩) (by assumption) ?_
  · intro w hSw
    (try dsimp only at hSw)
    go_simp
  (try simp only [Act.put, List.getElem_toArray, List.getElem_cons_zero, List.getElem_cons_succ, List.setIfInBounds_toArray, List.set_cons_zero, List.set_cons_succ])
  refine wpAnyH_take (i := 3) (v := .int .i64 (j : Int)) rfl (by kernel_rfl) (by kernel_rfl) (by kernel_rfl) (fun _ _ _ h => hp _ _ _ _ _ h) (Or.inl ⟨by rfl, ?_⟩) (by assumption) ?_
  · intro w hSw
    (try dsimp only at hSw)
    go_simp
  (try simp only [Act.put, List.getElem_toArray, List.getElem_cons_zero, List.getElem_cons_succ, List.setIfInBounds_toArray, List.set_cons_zero, List.set_cons_succ])
  refine wpAnyH_take (i := 4) (v := .pointer (some ⟨nb, no + j, none⟩)) rfl (by kernel_rfl) (by kernel_rfl) (by kernel_rfl) (fun _ _ _ h => hp _ _ _ _ _ h) (Or.inl ⟨by rfl, ?_⟩) (by assumption) ?_
  · intro w hSw
    (try dsimp only at hSw)
    go_simp
  (try simp only [Act.put, List.getElem_toArray, List.getElem_cons_zero, List.getElem_cons_succ, List.setIfInBounds_toArray, List.set_cons_zero, List.set_cons_succ])
  refine wpAnyH_take (i := 5) (v := .string nm) rfl (by kernel_rfl) (by kernel_rfl) (by kernel_rfl) (fun _ _ _ h => hp _ _ _ _ _ h) (Or.inl ⟨by rfl, ?_⟩) (by assumption) ?_
  · intro w hSw
    (try dsimp only at hSw)
    go_simp
  (try simp only [Act.put, List.getElem_toArray, List.getElem_cons_zero, List.getElem_cons_succ, List.setIfInBounds_toArray, List.set_cons_zero, List.set_cons_succ])
  refine wpAnyH_take (i := 6) (v := .string (out ++ nm)) rfl (by kernel_rfl) (by kernel_rfl) (by kernel_rfl) (fun _ _ _ h => hp _ _ _ _ _ h) (Or.inl ⟨by rfl, ?_⟩) (by assumption) ?_
  · intro w hSw
    (try dsimp only at hSw)
    (go_simp; omega)
  (try simp only [Act.put, List.getElem_toArray, List.getElem_cons_zero, List.getElem_cons_succ, List.setIfInBounds_toArray, List.set_cons_zero, List.set_cons_succ])
  refine wpAnyH_take (i := 7) (v := .string (out ++ nm ++ ⟨#[32, 61, 32]⟩)) rfl (by kernel_rfl) (by kernel_rfl) (by kernel_rfl) (fun _ _ _ h => hp _ _ _ _ _ h) (Or.inl ⟨by rfl, ?_⟩) (by assumption) ?_
  · intro w hSw
    (try dsimp only at hSw)
    (go_simp; omega)
  (try simp only [Act.put, List.getElem_toArray, List.getElem_cons_zero, List.getElem_cons_succ, List.setIfInBounds_toArray, List.set_cons_zero, List.set_cons_succ])
  refine wpAnyH_take (i := 8) (v := .pointer (some ⟨vb, 4, none⟩)) rfl (by kernel_rfl) (by kernel_rfl) (by kernel_rfl) (fun _ _ _ h => hp _ _ _ _ _ h) (Or.inl ⟨by rfl, ?_⟩) (by assumption) ?_
  · intro w hSw
    (try dsimp only at hSw)
    go_simp
  (try simp only [Act.put, List.getElem_toArray, List.getElem_cons_zero, List.getElem_cons_succ, List.setIfInBounds_toArray, List.set_cons_zero, List.set_cons_succ])
  refine wpAnyH_take (i := 9) (v := .slice (some ⟨b, o', none⟩) n c) rfl (by kernel_rfl) (by kernel_rfl) (by kernel_rfl) (fun _ _ _ h => hp _ _ _ _ _ h) (Or.inl ⟨by rfl, ?_⟩) (by assumption) ?_
  · intro w hSw
    (try dsimp only at hSw)
    go_simp
  (try simp only [Act.put, List.getElem_toArray, List.getElem_cons_zero, List.getElem_cons_succ, List.setIfInBounds_toArray, List.set_cons_zero, List.set_cons_succ])
  refine wpAnyH_take (i := 10) (v := .int .i64 (j : Int)) rfl (by kernel_rfl) (by kernel_rfl) (by kernel_rfl) (fun _ _ _ h => hp _ _ _ _ _ h) (Or.inl ⟨by rfl, ?_⟩) (by assumption) ?_
  · intro w hSw
    (try dsimp only at hSw)
    go_simp
  (try simp only [Act.put, List.getElem_toArray, List.getElem_cons_zero, List.getElem_cons_succ, List.setIfInBounds_toArray, List.set_cons_zero, List.set_cons_succ])
  refine wpAnyH_take (i := 11) (v := .pointer (some ⟨b, o' + j * 6, none⟩)) rfl (by kernel_rfl) (by kernel_rfl) (by kernel_rfl) (fun _ _ _ h => hp _ _ _ _ _ h) (Or.inl ⟨by rfl, ?_⟩) (by assumption) ?_
  · intro w hSw
    (try dsimp only at hSw)
    go_simp
  (try simp only [Act.put, List.getElem_toArray, List.getElem_cons_zero, List.getElem_cons_succ, List.setIfInBounds_toArray, List.set_cons_zero, List.set_cons_succ])
  refine wpAnyH_take (i := 12) (v := .agg #[.int .i64 xh.k, .int .i64 xh.m, .int .i64 xh.e, .string xh.t, .slice xa xk.len xc, .slice xh.na xh.ns.length xh.nc]) rfl (by kernel_rfl) (by kernel_rfl) (by kernel_rfl) (fun _ _ _ h => hp _ _ _ _ _ h) (Or.inl ⟨by rfl, ?_⟩) (by assumption) ?_
  · intro w hSw
    (try dsimp only at hSw)
    (obtain ⟨⟨_, c0, c1, c2, c3, c4, c5⟩, _⟩ := hSw; go_simp)
  (try simp only [Act.put, List.getElem_toArray, List.getElem_cons_zero, List.getElem_cons_succ, List.setIfInBounds_toArray, List.set_cons_zero, List.set_cons_succ])
  refine wpAnyH_ready (rs := [13]) (by kernel_rfl) (by simp) ?_
  refine AllReadyH.cons rfl (fun K hK => ?_) AllReadyH.nil
  go_simp
  refine (hcall _ hB0).mono ?_
  rintro r w1 ⟨rfl, hb1⟩
  have hB1 := hB0.trans (hb1.mono hB0.size)
  go_wp2_with fail
  refine hK.out _ _ (HSof.out _ hB1) (fun hHeld => ?_)
  clear hK K hb1 hB0
  refine wpAnyH_take (i := 14) (v := .string (out ++ nm ++ ⟨#[32, 61, 32]⟩ ++ tx)) rfl (by kernel_rfl) (by kernel_rfl) (by kernel_rfl) (fun _ _ _ h => hp _ _ _ _ _ h) (Or.inl ⟨by rfl, ?_⟩) (by assumption) ?_
  · intro w hSw
    (try dsimp only at hSw)
    (go_simp; omega)
  (try simp only [Act.put, List.getElem_toArray, List.getElem_cons_zero, List.getElem_cons_succ, List.setIfInBounds_toArray, List.set_cons_zero, List.set_cons_succ])
  refine wpAnyH_take (i := 15) (v := .string (out ++ nm ++ ⟨#[32, 61, 32]⟩ ++ tx ++ ⟨#[10]⟩)) rfl (by kernel_rfl) (by kernel_rfl) (by kernel_rfl) (fun _ _ _ h => hp _ _ _ _ _ h) (Or.inl ⟨by rfl, ?_⟩) (by assumption) ?_
  · intro w hSw
    (try dsimp only at hSw)
    (go_simp; omega)
  (try simp only [Act.put, List.getElem_toArray, List.getElem_cons_zero, List.getElem_cons_succ, List.setIfInBounds_toArray, List.set_cons_zero, List.set_cons_succ])
  refine wpAnyH_take (i := 16) (v := .string (out ++ nm ++ ⟨#[32, 61, 32]⟩ ++ tx ++ ⟨#[10]⟩)) rfl (by kernel_rfl) (by kernel_rfl) (by kernel_rfl) (fun _ _ _ h => hp _ _ _ _ _ h) (Or.inl ⟨by rfl, ?_⟩) (by assumption) ?_
  · intro w hSw
    (try dsimp only at hSw)
    go_simp
  (try simp only [Act.put, List.getElem_toArray, List.getElem_cons_zero, List.getElem_cons_succ, List.setIfInBounds_toArray, List.set_cons_zero, List.set_cons_succ])
  refine wpAnyH_done (by kernel_rfl) ?_ _
  exact h_ _ _ _ _ _ _ _ _ _ _ _ _ _ _ _ _ _ hB1
end Go.Proofs.Ytpgpkdeiapeoiaa
/- Values as lines, by the specification: l12Toml. -/
namespace Go.Proofs.Ytpgpkdeiapeoiaa
open Go.RowKit
def STom (N : Nat) : Prop := ∀ (h : Hd) (a : Option Addr) (c : Nat) (F : Vo) (path : ByteArray) (w : World), F.size < N → N ≤ 200 → path.size + 13 * N ≤ 3000 → h.k = 6 → FitJ h F → F.In w a → F.len ≤ c → c ≤ maxLen → h.In w →
  Calls Try.prog 34 #[valV h a F.len c, .string path] w fun r w' => r = .returned (.string ⟨(ttext N h F path.data.toList).toArray⟩) ∧ Below w.heap.size w w'
set_option linter.unusedSimpArgs false in
set_option maxRecDepth 100000 in
set_option maxHeartbeats 2000000 in
theorem l12Toml_step (N : Nat) (H : STom N) : STom (N + 1) := by
  intro h a c F path w hF hN hpl hk hfit hin hl hc hh
  obtain ⟨k, m, e, t, na, nc, ns⟩ := h
  dsimp only at hk
  subst hk
  have hone := oneJ hfit.1
  dsimp only at hone
  obtain ⟨-, -, -, k66, -⟩ := hone
  have HK := hideIt (k66 rfl)
  clear k66
  have hll := F.len_le
  have hpz : path.data.toList.length = path.size := by rw [Array.length_toList]; rfl
  obtain ⟨n, hn⟩ : ∃ n, F.len = n := ⟨_, rfl⟩
  have HNl := hideIt hn
  have HT : Hid (ttext (N + 1) ⟨6, m, e, t, na, nc, ns⟩ F path.data.toList = tlines ns F n ++ theads (ttext N) ns F path.data.toList n) := by
    show tlines ns F F.len ++ theads (ttext N) ns F path.data.toList F.len = _
    rw [hn]
  have HCh : Hid (∀ i, i < F.len → (F.hdAt i).k = 6 → (ttext N (F.hdAt i) (F.kidsAt i) ((path.data.toList ++ (nameAt ns i).data.toList) ++ [46])).length ≤ 30000 * (F.kidsAt i).size) := fun i hi hk' => ttext_len N _ _ _ (by
    have h3 := asc_short HK.out.2 i
    have h4 : (nameAt ns i).data.toList.length = (nameAt ns i).size := by rw [Array.length_toList]; rfl
    simp only [List.length_append, List.length_cons, List.length_nil]
    omega) hk' (fitJ_at hi hfit.2)
  have HLn : Hid (∀ j, j ≤ n → (tlines ns F j).length + (theads (ttext N) ns F path.data.toList j).length ≤ 30000 * F.sumJ j) := by
    unfold Hid
    rw [← hn]
    exact tsum_len (by omega) (fun i => asc_short HK.out.2 i) hfit.2 HCh.out
  have HS : Hid (∀ j, j ≤ n → F.sumJ j ≤ F.size) := fun j hj => by
    have h1 := sumJ_le F (i := j) (n := F.len) (by omega)
    rw [sumJ_len] at h1
    exact h1
  obtain ⟨wp, hwp⟩ : ∃ wp, wp = w.alloc (.cells #[.int .i64 6, .int .i64 m, .int .i64 e, .string t, .slice a F.len c, .slice na ns.length nc] 33) := ⟨_, rfl⟩
  have hBp : Below w.heap.size w wp := by subst hwp; exact (Below.refl _ w).alloc (Nat.le_refl _) _
  have hA : BxV w.heap.size ⟨6, m, e, t, na, nc, ns⟩ (.slice a F.len c) wp := by subst hwp; exact BxV.new w ⟨6, m, e, t, na, nc, ns⟩ _ _
  have HX : Hid (∀ W, Below wp.heap.size wp W → BxV w.heap.size ⟨6, m, e, t, na, nc, ns⟩ (.slice a n c) W) := fun W hW => by rw [← hn]; exact hA.below hW
  have HI : Hid ((∀ W, Below wp.heap.size wp W → F.In W a ∧ Below w.heap.size w W) ∧ F.allOne) := ⟨fun W hW => ⟨hin.grow (hBp.trans (hW.mono hBp.size)), hBp.trans (hW.mono hBp.size)⟩, hfit.2⟩
  have HNm : Hid ((ns.length = F.len ∧ ∀ i, (nameAt ns i).size ≤ 12) ∧ ∀ W, Below wp.heap.size wp W → SIn W ns na) := ⟨⟨HK.out.1, fun i => asc_short HK.out.2 i⟩, fun W hW => hh.1.grow (hBp.trans (hW.mono hBp.size))⟩
  have HW := hideIt hwp
  have hzp := hBp.size
  rw [hn] at hl hll ⊢
  clear hwp hA hBp hin hfit hh HK hn hpz
  go_enter Try.func34, Try.ntmps34
  go_wp2_with fail
  rw [HNl.out] at HW
  rw [← HW.out]
  clear HW
  go_loopw [5, 6] (fun o i wr => ∃ j : Nat, i = .int .i64 j ∧ j ≤ n ∧ o = .string ⟨(tlines ns F j).toArray⟩ ∧ Below wp.heap.size wp wr) (fun _ i _ => n - (intOf i).toNat)
  case atStart => exact ⟨0, rfl, Nat.zero_le _, rfl, Below.refl _ _⟩
  case round =>
    obtain ⟨j, rfl, hj, rfl, hb⟩ := hrel
    obtain ⟨x0, x1, x2, x3, x4, x5⟩ := HX.out _ hb
    have hlj := HLn.out j hj
    have hsj := HS.out j hj
    by_cases hjn : j < n
    case neg =>
      have ej : j = n := by omega
      subst ej
      obtain ⟨L, hL⟩ : ∃ L, L = tlines ns F j := ⟨_, rfl⟩
      have HL0 := hideIt hL
      rw [← hL] at hlj ⊢
      clear hL hjn hj
      have hLl : L.length ≤ 30000 * F.sumJ j := by omega
      clear hlj
      have hqL := arr_size L
      go_wp2_with fail
      go_loopw [5, 7] (fun o i wr => ∃ j' : Nat, i = .int .i64 j' ∧ j' ≤ j ∧ o = .string ⟨(L ++ theads (ttext N) ns F path.data.toList j').toArray⟩ ∧ Below wp.heap.size wp wr) (fun _ i _ => j - (intOf i).toNat)
      case atStart => exact ⟨0, rfl, Nat.zero_le _, by simp [theads], hb⟩
      case round =>
        clear x0 x1 x2 x3 x4 x5 hb
        obtain ⟨j', rfl, hj, rfl, hb⟩ := hrel
        obtain ⟨x0, x1, x2, x3, x4, x5⟩ := HX.out _ hb
        have hlj := HLn.out j' hj
        have hsj' := HS.out j' hj
        by_cases hjn : j' < j
        case neg =>
          have ej : j' = j := by omega
          subst ej
          obtain ⟨A, hA⟩ : ∃ A, A = L ++ theads (ttext N) ns F path.data.toList j' := ⟨_, rfl⟩
          have HT2 : Hid (ttext (N + 1) ⟨6, m, e, t, na, nc, ns⟩ F path.data.toList = A) := by rw [hA, HL0.out]; exact HT.out
          rw [← hA]
          clear hA HT hjn hj
          have hbe := (HI.out.1 _ hb).2
          go_wp2_with fail
          go_ret
          exact ⟨by rw [HT2.out]; exact ret_str rfl, hbe⟩
        have hjF : j' < F.len := by rw [HNl.out]; exact hjn
        have hjl : (j' : Int) < (j : Int) := by omega
        have hs1 := HS.out (j' + 1) hjn
        have hs1' : F.sumJ j' + ((F.kidsAt j').size + 1) ≤ F.size := hs1
        obtain ⟨b, o', rfl, hFr⟩ := Vo.from_of_len (HI.out.1 _ (Below.refl _ _)).1 hjF
        obtain ⟨⟨c0, c1, c2, c3, c4, c5⟩, ck, ⟨cc1, cc2⟩, ch⟩ := Vo.from_at (Vo.from_grow hb F b o' hFr) hjF
        have HF : Hid (FitJ (F.hdAt j') (F.kidsAt j')) := fitJ_at hjF HI.out.2
        have HKid : Hid (((F.kidsAt j').In wp (F.addrAt j') ∧ (F.hdAt j').In wp)) := by
          obtain ⟨_, x2, _, x4⟩ := Vo.from_at hFr hjF
          exact ⟨x2, x4⟩
        have HCl : Hid ((F.hdAt j').k = 6 → (ttext N (F.hdAt j') (F.kidsAt j') ((path.data.toList ++ (nameAt ns j').data.toList) ++ [46])).length ≤ 30000 * (F.kidsAt j').size) := HCh.out j' hjF
        clear ck ch
        have HP : Hid (theads (ttext N) ns F path.data.toList (j' + 1) = theads (ttext N) ns F path.data.toList j' ++ (if (F.hdAt j').k = 6 then [91] ++ ((path.data.toList ++ (nameAt ns j').data.toList) ++ ([93, 10] ++ ttext N (F.hdAt j') (F.kidsAt j') ((path.data.toList ++ (nameAt ns j').data.toList) ++ [46]))) else [])) := rfl
        obtain ⟨A, hA⟩ : ∃ A, A = theads (ttext N) ns F path.data.toList j' := ⟨_, rfl⟩
        rw [← hA] at hlj HP ⊢
        clear hA HT
        generalize F.hdAt j' = xh at *
        generalize F.kidsAt j' = xk at *
        generalize F.addrAt j' = xa at *
        generalize F.capAt j' = xc at *
        have hq := arr_size (L ++ A)
        rw [List.length_append] at hq
        have hcl := HNm.out.1.2 j'
        have hsn := nameAt_some (ns := ns) (i := j') (by rw [HNm.out.1.1]; exact hjF)
        obtain ⟨nb, no, e1, e3⟩ : ∃ nb no, na = some ⟨nb, no, none⟩ ∧ wr.cell? ⟨nb, no + j', none⟩ = some (.string (nameAt ns j')) := by
          rcases HNm.out.2 _ hb with e | ⟨nb, no, e, hS⟩
          · rw [e] at hsn; simp at hsn
          · exact ⟨nb, no, e, (hS.at hsn).1⟩
        subst e1
        have hjn2 : (j' : Int) < (ns.length : Int) := by rw [HNm.out.1.1, HNl.out]; exact hjl
        clear hsn
        by_cases hk : xh.k = 6
        · have hk' : (xh.k == 6) = true := by simp [hk]
          have HKk := hideIt hk
          have hcl2 := HCl.out hk
          clear hk
          obtain ⟨nm, hnm⟩ : ∃ nm, nameAt ns j' = nm := ⟨_, rfl⟩
          rw [hnm] at hcl hcl2 e3 HP
          clear hnm
          have hnl : nm.data.toList.length = nm.size := by rw [Array.length_toList]; rfl
          obtain ⟨p2, hp2⟩ : ∃ p2 : ByteArray, path ++ nm ++ (⟨#[46]⟩ : ByteArray) = p2 := ⟨_, rfl⟩
          have hp3 : p2.size = path.size + nm.size + 1 := by rw [← hp2]; simp [ByteArray.size_append]; rfl
          have hp4 : (path.data.toList ++ nm.data.toList) ++ [46] = p2.data.toList := by rw [← hp2]; simp [ByteArray.data_append]
          have HP2 := hideIt (And.intro hp2 hp4)
          rw [hp4] at hcl2 HP
          clear hp2 hp4
          have hq2 := arr_size (ttext N xh xk p2.data.toList)
          go_wp2_with fail
          rw [HP2.out.1]
          refine (H xh xa xc xk p2 _ (by omega) (by omega) (by omega) HKk.out HF.out (HKid.out.1.grow hb) cc1 cc2 (HKid.out.2.grow hb)).mono ?_
          rintro r w2 ⟨rfl, hb2⟩
          have hB2 := hb.trans (hb2.mono hb.size)
          clear x0 x1 x2 x3 x4 x5 c0 c1 c2 c3 c4 c5 e3
          go_wp2_with fail
          go_round
          case rel =>
            refine ⟨j' + 1, by go_num, by omega, ?_, hB2⟩
            rw [HP.out, if_pos HKk.out]
            exact str_eq (by simp [ByteArray.data_append])
          case measure => simp [intOf]; omega
        · have hk' : (xh.k == 6) = false := by simp [hk]
          have HKk := hideIt hk
          clear hk
          go_wp2_with fail
          go_round
          case rel =>
            refine ⟨j' + 1, by go_num, by omega, ?_, hb⟩
            rw [HP.out, if_neg HKk.out, List.append_nil]
          case measure => simp [intOf]; omega
    have hjF : j < F.len := by rw [HNl.out]; exact hjn
    have hjl : (j : Int) < (n : Int) := by omega
    have hs1 := HS.out (j + 1) hjn
    have hs1' : F.sumJ j + ((F.kidsAt j).size + 1) ≤ F.size := hs1
    obtain ⟨b, o', rfl, hFr⟩ := Vo.from_of_len (HI.out.1 _ (Below.refl _ _)).1 hjF
    obtain ⟨⟨c0, c1, c2, c3, c4, c5⟩, ck, ⟨cc1, cc2⟩, ch⟩ := Vo.from_at (Vo.from_grow hb F b o' hFr) hjF
    have HF : Hid (FitJ (F.hdAt j) (F.kidsAt j)) := fitJ_at hjF HI.out.2
    have hklen := jtext_len (step := []) (gap := []) (by simp) (by simp) 200 (F.hdAt j) (F.kidsAt j) [] (by simp only [List.length_nil]; omega) HF.out
    have HP : Hid (tlines ns F (j + 1) = tlines ns F j ++ (if (F.hdAt j).k = 6 then [] else (nameAt ns j).data.toList ++ ([32, 61, 32] ++ (jtext [] [] 200 (F.hdAt j) (F.kidsAt j) [] ++ [10])))) := rfl
    have HKid : Hid (((F.kidsAt j).In wp (F.addrAt j) ∧ (F.hdAt j).In wp)) := by
      obtain ⟨_, x2, _, x4⟩ := Vo.from_at hFr hjF
      exact ⟨x2, x4⟩
    clear ck ch
    obtain ⟨A, hA⟩ : ∃ A, A = tlines ns F j := ⟨_, rfl⟩
    rw [← hA] at hlj HP ⊢
    clear hA HT
    generalize F.hdAt j = xh at *
    generalize F.kidsAt j = xk at *
    generalize F.addrAt j = xa at *
    generalize F.capAt j = xc at *
    have HCk := hideIt (And.intro c0 (And.intro c1 (And.intro c2 (And.intro c3 (And.intro c4 c5)))))
    have hq := arr_size A
    have hcl := HNm.out.1.2 j
    have hsn := nameAt_some (ns := ns) (i := j) (by rw [HNm.out.1.1]; exact hjF)
    obtain ⟨nb, no, e1, e3⟩ : ∃ nb no, na = some ⟨nb, no, none⟩ ∧ wr.cell? ⟨nb, no + j, none⟩ = some (.string (nameAt ns j)) := by
      rcases HNm.out.2 _ hb with e | ⟨nb, no, e, hS⟩
      · rw [e] at hsn; simp at hsn
      · exact ⟨nb, no, e, (hS.at hsn).1⟩
    subst e1
    have hjn2 : (j : Int) < (ns.length : Int) := by rw [HNm.out.1.1, HNl.out]; exact hjl
    clear hsn
    have hqk := arr_size (jtext [] [] 200 xh xk [])
    by_cases hk : xh.k = 6
    · have hk' : (xh.k != 6) = false := by simp [bne, hk]
      have HKk := hideIt hk
      clear hk
      go_wp2_with fail
      go_round
      case rel =>
        refine ⟨j + 1, by go_num, by omega, ?_, hb⟩
        rw [HP.out, if_pos HKk.out, List.append_nil]
      case measure => simp [intOf]; omega
    · have hk' : (xh.k != 6) = true := by simp [bne, hk]
      have HKk := hideIt hk
      clear hk
      go_wp2_with fail
      refine tm6 (tx := ⟨(jtext [] [] 200 xh xk []).toArray⟩) (HX.out _ hb) (show Cells6 wr b (o' + j * 6) xh (.slice xa xk.len xc) from HCk.out) e3 rfl hjl hjn2 (by omega) (fun W' hW => ?_) (fun _ d _ _ _ h => by cases d <;> exact h) ?_
      · have hB1 := hb.trans (hW.mono hb.size)
        exact l7Put_all 200 xh xa xc xk W' (by omega) (by omega) HF.out (HKid.out.1.grow hB1) cc1 cc2 (HKid.out.2.grow hB1)
      intro ws v23 v24 v25 v26 v27 v28 v29 v30 v31 v32 v33 v34 v35 v36 v37 v38 hb2
      have hB2 := hb.trans (hb2.mono hb.size)
      clear x0 x1 x2 x3 x4 x5 c0 c1 c2 c3 c4 c5 e3
      go_wp2_with fail
      go_round
      case rel =>
        refine ⟨j + 1, by go_num, by omega, ?_, hB2⟩
        rw [HP.out, if_neg HKk.out]
        exact str_eq (by simp [ByteArray.data_append])
      case measure => simp [intOf]; omega
theorem l12Toml_all (N : Nat) : STom N := by
  induction N with
  | zero => intro h a c F path w hF; omega
  | succ N ih => exact l12Toml_step N ih
end Go.Proofs.Ytpgpkdeiapeoiaa
/- Values as lines, by the specification: TomlPut. -/
namespace Go.Proofs.Ytpgpkdeiapeoiaa
open Go.RowKit
/-- an answer that is a text and a truth -/
abbrev pairV (p : ByteArray × Bool) : Value := .tuple #[.string p.1, .bool p.2]
set_option maxRecDepth 100000 in
set_option maxHeartbeats 1000000 in
theorem sTomlPut_any (hd : Hd) (a : Option Addr) (c : Nat) (F : Vo) (w : World) (hF : F.size ≤ 1048576) (hin : F.In w a) (hl : F.len ≤ c) (hc : c ≤ maxLen) (hh : hd.In w) :
    Calls Try.prog 14 #[valV hd a F.len c] w fun r w' => r = .returned (pairV (tput hd F)) ∧ Below w.heap.size w w' := by
  obtain ⟨wp, hwp⟩ : ∃ wp, wp = w.alloc (.cells #[.int .i64 hd.k, .int .i64 hd.m, .int .i64 hd.e, .string hd.t, .slice a F.len c, .slice hd.na hd.ns.length hd.nc] 33) := ⟨_, rfl⟩
  have hBp : Below w.heap.size w wp := by subst hwp; exact (Below.refl _ w).alloc (Nat.le_refl _) _
  have hA : BxV w.heap.size hd (.slice a F.len c) wp := by subst hwp; exact BxV.new w hd _ _
  have hX1 : Hid (∀ W, Below wp.heap.size wp W → BxV w.heap.size hd (.slice a F.len c) W) := fun W hW => hA.below hW
  have HI : Hid (∀ W, Below wp.heap.size wp W → (F.In W a ∧ hd.In W) ∧ Below w.heap.size w W) := fun W hW => by
    have hb := hBp.trans (hW.mono hBp.size)
    exact ⟨⟨hin.grow hb, hh.grow hb⟩, hb⟩
  have HW := hideIt hwp
  have hB0 := Below.refl wp.heap.size wp
  clear hwp hA hin hh hBp
  go_enter Try.func14, Try.ntmps14
  go_wp2_with fail
  rw [← HW.out]
  clear HW
  refine (sValueOk_any hd a c F _ (by omega) (HI.out _ hB0).1.1 hl hc (HI.out _ hB0).1.2).mono ?_
  rintro r w1 ⟨⟨q1, rfl, hq1⟩, hb1⟩
  have HQ1 := hideIt hq1
  clear hq1
  obtain ⟨x0, x1, x2, x3, x4, x5⟩ := hX1.out _ hb1
  cases q1
  · have HR : Hid (tput hd F = (⟨#[]⟩, false)) := tput_no (fun x => by have := HQ1.out.2 x.1; cases this)
    have hbb := (HI.out _ hb1).2
    go_wp2_with fail
    exact bodyPost_ret (v := pairV (⟨#[]⟩, false)) (by simp [results, Try.results14, go_sem]) rfl ⟨by rw [HR.out], hbb⟩
  · have hv : ValOk hd F := by have q := HQ1.out; simpa using q
    have HV := hideIt hv
    have hs2 : F.size + 1 ≤ 200 := hv.1
    clear HQ1 hv
    go_wp2_with fail
    refine (l12Fits_any 300 hd a c F _ (by omega) (by omega) (HI.out _ hb1).1.1 hl hc (HI.out _ hb1).1.2).mono ?_
    rintro r w2 ⟨⟨q2, rfl, hq2⟩, hb2⟩
    have HQ2 := hideIt hq2
    have hB2 := hb1.trans (hb2.mono hb1.size)
    clear hq2 x0 x1 x2 x3 x4 x5 hb2
    obtain ⟨x0, x1, x2, x3, x4, x5⟩ := hX1.out _ hB2
    cases q2
    · have HR : Hid (tput hd F = (⟨#[]⟩, false)) := tput_no (fun x => by have := HQ2.out.2 x.2; cases this)
      have hbb := (HI.out _ hB2).2
      go_wp2_with fail
      exact bodyPost_ret (v := pairV (⟨#[]⟩, false)) (by simp [results, Try.results14, go_sem]) rfl ⟨by rw [HR.out], hbb⟩
    · have hf : fitsV hd F := by have q := HQ2.out; simpa using q
      have HR : Hid (tput hd F = (⟨(ttext 200 hd F []).toArray⟩, true)) := tput_ok ⟨HV.out, hf⟩
      have HF := hideIt hf
      clear HQ2 hf
      go_wp2_with fail
      refine (l12Toml_all 200 hd a c F ⟨#[]⟩ _ (by omega) (by omega) (by show 0 + 13 * 200 ≤ 3000; omega) HF.out.1 ⟨HV.out.2.2.1, HV.out.2.2.2⟩ (HI.out _ hB2).1.1 hl hc (HI.out _ hB2).1.2).mono ?_
      rintro r w3 ⟨rfl, hb3⟩
      have hbb := (HI.out _ (hB2.trans (hb3.mono hB2.size))).2
      clear x0 x1 x2 x3 x4 x5
      go_wp2_with fail
      exact bodyPost_ret (v := pairV (⟨(ttext 200 hd F []).toArray⟩, true)) (by simp [results, Try.results14, go_sem]) rfl ⟨by rw [HR.out], hbb⟩
end Go.Proofs.Ytpgpkdeiapeoiaa
/- Values as lines, by the program: TomlPut. -/
namespace Go.Proofs.Ytpgpkdeiapeoiaa
open Go.RowKit
attribute [local go_sem] cell_alloc_is frozen_alloc_is
set_option maxRecDepth 100000 in
set_option maxHeartbeats 1000000 in
theorem newLinesWriter_any (kb : Nat) (w : World) :
    Calls Try.prog 52 #[.pointer (some ⟨kb, 0, none⟩)] w fun e w' => e = .returned (wrV kb ⟨#[]⟩ ⟨#[]⟩) ∧ Below w.heap.size w w' := by
  go_enter Try.func52, Try.ntmps52
  go_wp2_with fail
  obtain ⟨W1, hW1⟩ : ∃ W1, w.alloc (.cells #[.pointer none, .string ⟨#[]⟩, .string ⟨#[]⟩, .string ⟨#[]⟩, .int .i64 0, .string ⟨#[]⟩, .string ⟨#[]⟩] 87) = W1 := ⟨_, rfl⟩
  have R1 : Row W1 w.heap.size [.pointer none, .string ⟨#[]⟩, .string ⟨#[]⟩, .string ⟨#[]⟩, .int .i64 0, .string ⟨#[]⟩, .string ⟨#[]⟩] := by rw [← hW1]; exact Row.new w [.pointer none, .string ⟨#[]⟩, .string ⟨#[]⟩, .string ⟨#[]⟩, .int .i64 0, .string ⟨#[]⟩, .string ⟨#[]⟩] 87
  have hB1 : Below w.heap.size w W1 := by rw [← hW1]; exact (Below.refl _ w).alloc (Nat.le_refl _) _
  rw [hW1]
  clear hW1
  refine (newJsonWriter_any kb _).mono ?_
  rintro e w2 ⟨rfl, hb2⟩
  have R2 := R1.below hb2 R1.lt
  have hB2 := hB1.trans (hb2.mono hB1.size)
  obtain ⟨y0, z0⟩ := R2 0 _ rfl
  obtain ⟨y1, z1⟩ := R2 1 _ rfl
  obtain ⟨y2, z2⟩ := R2 2 _ rfl
  obtain ⟨y3, z3⟩ := R2 3 _ rfl
  obtain ⟨y4, z4⟩ := R2 4 _ rfl
  obtain ⟨y5, z5⟩ := R2 5 _ rfl
  obtain ⟨y6, z6⟩ := R2 6 _ rfl
  clear hb2 hB1 R1
  go_wp2_with fail
  have R3 := (((((((R2.set (i := 0) (by simp) (.pointer (some ⟨kb, 0, none⟩))).set (i := 1) (by simp) (.string ⟨#[92, 117, 48, 48]⟩)).set (i := 2) (by simp) (.string ⟨#[34, 92, 47, 98, 102, 110, 114, 116]⟩)).set (i := 3) (by simp) (.string ⟨#[34, 92, 47, 8, 12, 10, 13, 9]⟩)).set (i := 4) (by simp) (.int .i64 2)).set (i := 5) (by simp) (.string ⟨#[]⟩)).set (i := 6) (by simp) (.string ⟨#[]⟩))
  have hB3 := (((((((hB2.setCell (p := ⟨w.heap.size, 0, none⟩) (Nat.le_refl _) (.pointer (some ⟨kb, 0, none⟩))).setCell (p := ⟨w.heap.size, 1, none⟩) (Nat.le_refl _) (.string ⟨#[92, 117, 48, 48]⟩)).setCell (p := ⟨w.heap.size, 2, none⟩) (Nat.le_refl _) (.string ⟨#[34, 92, 47, 98, 102, 110, 114, 116]⟩)).setCell (p := ⟨w.heap.size, 3, none⟩) (Nat.le_refl _) (.string ⟨#[34, 92, 47, 8, 12, 10, 13, 9]⟩)).setCell (p := ⟨w.heap.size, 4, none⟩) (Nat.le_refl _) (.int .i64 2)).setCell (p := ⟨w.heap.size, 5, none⟩) (Nat.le_refl _) (.string ⟨#[]⟩)).setCell (p := ⟨w.heap.size, 6, none⟩) (Nat.le_refl _) (.string ⟨#[]⟩))
  revert R3 hB3
  generalize (((((((w2.setCell _ _).setCell _ _).setCell _ _).setCell _ _).setCell _ _).setCell _ _).setCell _ _) = w9
  intro R3 hB3
  have c0 := (R3 0 _ rfl).1
  have c1 := (R3 1 _ rfl).1
  have c2 := (R3 2 _ rfl).1
  have c3 := (R3 3 _ rfl).1
  have c4 := (R3 4 _ rfl).1
  have c5 := (R3 5 _ rfl).1
  have c6 := (R3 6 _ rfl).1
  exact bodyPost_ret (v := wrV kb ⟨#[]⟩ ⟨#[]⟩) (by simp [results, Try.results52, go_sem, c0, c1, c2, c3, c4, c5, c6]) rfl ⟨rfl, hB3⟩
set_option maxRecDepth 100000 in
set_option maxHeartbeats 1000000 in
theorem lp4 {Q : Exit → Act → World → Prop} {t0 t1 t3 t4 t5 t7 t8 t9 t10 t11 t12 t13 t14 t15 t16 t17 t18 t19 : Value} {W : World} {bv B kb : Nat} {hd : Hd} {a : Option Addr} {c : Nat} {F : Vo} {L : List UInt8}
    (hA : BxV bv hd (.slice a F.len c) W) (hcall : ∀ W', Below W.heap.size W W' → Calls Try.prog 53 #[wrV kb ⟨#[]⟩ ⟨#[]⟩, valV hd a F.len c, .string ⟨#[]⟩] W' fun r w' => r = .returned (.tuple #[]) ∧ Wr B kb W' L w') (hbv : bv < B) (hBW : B ≤ W.heap.size)
    (hp : ∀ p d v a w, Q (.panic p) (Act.put a d v) w → Q (.panic p) a w) (h_ : ∀ ws v16 v17 v18, (Wr B kb W L ws) → Q .normal { tmps := (t0 :: t1 :: (.pointer (some ⟨bv, 0, none⟩)) :: t3 :: t4 :: t5 :: (.pointer (some ⟨kb, 0, none⟩)) :: t7 :: t8 :: t9 :: t10 :: t11 :: t12 :: t13 :: t14 :: t15 :: v16 :: v17 :: v18 :: t19 :: []).toArray, defers := [] } ws) :
    Code.wp Try.prog (Code.region 4 #[{ dst := some 16, op := Op.call { callee := Callee.value (Operand.func 52), args := #[Operand.tmp 6], argTypes := #[45] }, type := 87, pos := "l12_out.go:82", after := #[], guard := none }, { dst := some 17, op := Op.load 33 (Operand.tmp 2), type := 33, pos := "l12_out.go:82", after := #[], guard := none }, { dst := some 18, op := Op.call { callee := Callee.value (Operand.func 53), args := #[Operand.tmp 16, Operand.tmp 17, Operand.const (Value.string { data := #[] })], argTypes := #[87, 33, 9] }, type := 0, pos := "l12_out.go:82", after := #[{ on := 0, ground := Ground.data }, { on := 1, ground := Ground.data }, { on := 0, ground := Ground.chain }], guard := none }] true) Q { tmps := (t0 :: t1 :: (.pointer (some ⟨bv, 0, none⟩)) :: t3 :: t4 :: t5 :: (.pointer (some ⟨kb, 0, none⟩)) :: t7 :: t8 :: t9 :: t10 :: t11 :: t12 :: t13 :: t14 :: t15 :: t16 :: t17 :: t18 :: t19 :: []).toArray, defers := [] } W := by
  have HSof : Hid (∀ w', Below W.heap.size W w' → BxV bv hd (.slice a F.len c) w') := fun w' h => hA.below h
  have hB0 := (Below.refl W.heap.size W).drew
  have hS0 := HSof.out _ hB0
  clear hA
  refine wp_region_held_drew (S := fun w' => BxV bv hd (.slice a F.len c) w') (by kernel_rfl) hS0 (fun hHeld => ?_)
  refine wpAnyH_take (i := 1) (v := valV hd a F.len c) rfl (by kernel_rfl) (by kernel_rfl) (by kernel_rfl) (fun _ _ _ h => hp _ _ _ _ _ h) (Or.inl ⟨by rfl, ?_⟩) (by assumption) ?_
  · intro w hSw
    (try dsimp only at hSw)
    go_simp
  (try simp only [Act.put, List.getElem_toArray, List.getElem_cons_zero, List.getElem_cons_succ, List.setIfInBounds_toArray, List.set_cons_zero, List.set_cons_succ])
  refine wpAnyH_ready (rs := [0]) (by kernel_rfl) (by simp) ?_
  refine AllReadyH.cons rfl (fun K hK => ?_) AllReadyH.nil
  go_simp
  refine (newLinesWriter_any kb _).mono ?_
  rintro r w1 ⟨rfl, hb1⟩
  have hB1 := hB0.trans (hb1.mono hB0.size)
  go_wp2_with fail
  refine hK.out _ _ (HSof.out _ hB1) (fun hHeld => ?_)
  clear hK K hb1 hB0
  refine wpAnyH_ready (rs := [2]) (by kernel_rfl) (by simp) ?_
  refine AllReadyH.cons rfl (fun K hK => ?_) AllReadyH.nil
  go_simp
  refine (hcall _ hB1).mono ?_
  rintro r w2 ⟨rfl, hw2⟩
  have hS2 := hideIt (show BxV bv hd (.slice a F.len c) w2 from by
    have h1 := HSof.out _ hB1
    have hb := hw2.2.1
    obtain ⟨y0, y1, y2, y3, y4, y5⟩ := h1
    exact ⟨(hb.cell (p := ⟨bv, 0, none⟩) hbv).trans y0, (hb.cell (p := ⟨bv, 1, none⟩) hbv).trans y1, (hb.cell (p := ⟨bv, 2, none⟩) hbv).trans y2, (hb.cell (p := ⟨bv, 3, none⟩) hbv).trans y3, (hb.cell (p := ⟨bv, 4, none⟩) hbv).trans y4, (hb.cell (p := ⟨bv, 5, none⟩) hbv).trans y5⟩)
  have HW2 := hideIt hw2
  clear hw2
  go_wp2_with fail
  refine hK.out _ _ hS2.out (fun hHeld => ?_)
  clear hK K
  refine wpAnyH_done (by kernel_rfl) ?_ _
  exact h_ _ _ _ _ ⟨HW2.out.1, (hB1.mono hBW).trans HW2.out.2.1, kept_trans (kept_of_below hB1) HW2.out.2.2⟩
set_option maxRecDepth 100000 in
set_option maxHeartbeats 1000000 in
theorem linesToml_any (hd : Hd) (a : Option Addr) (c : Nat) (F : Vo) (w : World) (hF : F.size ≤ 1048576) (hin : F.In w a) (hl : F.len ≤ c) (hc : c ≤ maxLen) (hh : hd.In w) :
    Calls Try.prog 35 #[valV hd a F.len c, .func (.func 36) #[] #[]] w fun r w' => r = .returned (pairV (tput hd F)) ∧ Below w.heap.size w w' := by
  obtain ⟨wp, hwp⟩ : ∃ wp, wp = w.alloc (.cells #[.int .i64 hd.k, .int .i64 hd.m, .int .i64 hd.e, .string hd.t, .slice a F.len c, .slice hd.na hd.ns.length hd.nc] 33) := ⟨_, rfl⟩
  have hBp : Below w.heap.size w wp := by subst hwp; exact (Below.refl _ w).alloc (Nat.le_refl _) _
  have hA : BxV w.heap.size hd (.slice a F.len c) wp := by subst hwp; exact BxV.new w hd _ _
  have hX1 : Hid (∀ W, Below wp.heap.size wp W → BxV w.heap.size hd (.slice a F.len c) W) := fun W hW => hA.below hW
  have HI : Hid (∀ W, Below wp.heap.size wp W → (F.In W a ∧ hd.In W) ∧ Below w.heap.size w W) := fun W hW => by
    have hb := hBp.trans (hW.mono hBp.size)
    exact ⟨⟨hin.grow hb, hh.grow hb⟩, hb⟩
  have HW := hideIt hwp
  have hB0 := Below.refl wp.heap.size wp
  clear hwp hA hin hh hBp
  go_enter Try.func35, Try.ntmps35
  go_wp2_with fail
  rw [← HW.out]
  clear HW
  refine (iValueOk_any hd a c F _ (by omega) (HI.out _ hB0).1.1 hl hc (HI.out _ hB0).1.2).mono ?_
  rintro r w1 ⟨⟨q1, rfl, hq1⟩, hb1⟩
  have HQ1 := hideIt (hq1.trans (good_ok _ _))
  clear hq1
  obtain ⟨x0, x1, x2, x3, x4, x5⟩ := hX1.out _ hb1
  cases q1
  · have HR : Hid (tput hd F = (⟨#[]⟩, false)) := tput_no (fun x => by have := HQ1.out.2 x.1; cases this)
    have hbb := (HI.out _ hb1).2
    go_wp2_with fail
    exact bodyPost_ret (v := pairV (⟨#[]⟩, false)) (by simp [results, Try.results35, go_sem]) rfl ⟨by rw [HR.out], hbb⟩
  · have hv : ValOk hd F := HQ1.out.1 rfl
    have HV := hideIt hv
    have hs2 : F.size + 1 ≤ 200 := hv.1
    clear HQ1 hv
    go_wp2_with fail
    refine (fitsToml_all 300 hd a c F _ (by omega) (by omega) (HI.out _ hb1).1.1 hl hc (HI.out _ hb1).1.2).mono ?_
    rintro r w1' ⟨⟨q2, rfl, hq2⟩, hb1'⟩
    have HQ2 := hideIt hq2
    have hb1 := hb1.trans (hb1'.mono hb1.size)
    clear hq2 x0 x1 x2 x3 x4 x5 hb1'
    obtain ⟨x0, x1, x2, x3, x4, x5⟩ := hX1.out _ hb1
    cases q2
    · have HR : Hid (tput hd F = (⟨#[]⟩, false)) := tput_no (fun x => by have := HQ2.out.2 x.2; cases this)
      have hbb := (HI.out _ hb1).2
      go_wp2_with fail
      exact bodyPost_ret (v := pairV (⟨#[]⟩, false)) (by simp [results, Try.results35, go_sem]) rfl ⟨by rw [HR.out], hbb⟩
    have hf : fitsV hd F := by have q := HQ2.out; simpa using q
    have HR : Hid (tput hd F = (⟨(ttext 200 hd F []).toArray⟩, true)) := tput_ok ⟨HV.out, hf⟩
    have HF := hideIt hf
    clear HQ2 hf
    go_wp2_with fail
    have hH : Holds w1'.heap.size w1'.heap.size [] (w1'.alloc (.cells #[.pointer none, .slice none 0 0] 48)) := by
      have := Lib.IsBuilderF.of (Lib.fresh_isBuilder 48 5 w1')
      exact this
    obtain ⟨w2, hw2⟩ : ∃ w2, w1'.alloc (.cells #[.pointer none, .slice none 0 0] 48) = w2 := ⟨_, rfl⟩
    have hb2 : Below w1'.heap.size w1' w2 := by rw [← hw2]; exact (Below.refl _ w1').alloc (Nat.le_refl _) _
    rw [hw2] at hH ⊢
    have hz2 : w2.heap.size = w1'.heap.size + 1 := by rw [← hw2]; simp
    clear hw2
    have hbv : w.heap.size < w1'.heap.size := World.block_lt_of_cell? _ _ x0
    have hA2 := hX1.out _ (hb1.trans (hb2.mono hb1.size))
    clear x0 x1 x2 x3 x4 x5
    refine lp4 (L := ttext 200 hd F []) (B := w1'.heap.size) hA2 (fun W' hW => ?_) hbv (by omega) (fun _ d _ _ _ h => by cases d <;> exact h) ?_
    · exact (object_all 200 hd a c F ⟨#[]⟩ [] w1'.heap.size w1'.heap.size W' w1' (by omega) (by omega) (by show 0 + 13 * 200 ≤ 3000; omega) HF.out.1 (by rw [List.length_nil]; omega) ⟨HV.out.2.2.1, HV.out.2.2.2⟩ (HI.out _ hb1).1.1 hl hc (HI.out _ hb1).1.2 (Nat.le_refl _) (Nat.le_refl _) (hb2.trans (hW.mono hb2.size)) (holds_belowJ hH hW) (by have := hW.size; omega)).mono (fun _ _ h => ⟨h.1, by simpa using h.2⟩)
    intro w4 v16 v17 v18 h4
    have HW4 := hideIt h4
    have hb34 := h4.2.1
    have hz4 := hb34.size
    clear h4 hA2
    go_wp2_with fail
    refine (bString _ _ _ _ HW4.out.1.1 HW4.out.1.2).mono ?_
    rintro e w5 ⟨rfl, h5, b5, k5⟩
    have hbe := (HI.out _ (hb1.trans ((hb2.trans (hb34.trans b5)).mono hb1.size))).2
    go_wp2_with fail
    exact bodyPost_ret (v := pairV (⟨(ttext 200 hd F []).toArray⟩, true)) (by simp [results, Try.results35, go_sem]) rfl ⟨by rw [HR.out], hbe⟩
set_option maxRecDepth 100000 in
set_option maxHeartbeats 1000000 in
theorem iTomlPut_any (hd : Hd) (a : Option Addr) (c : Nat) (F : Vo) (w : World) (hF : F.size ≤ 1048576) (hin : F.In w a) (hl : F.len ≤ c) (hc : c ≤ maxLen) (hh : hd.In w) :
    Calls Try.prog 15 #[valV hd a F.len c] w fun r w' => r = .returned (pairV (tput hd F)) ∧ Below w.heap.size w w' := by
  have hB0 := (Below.refl _ w).alloc (Nat.le_refl _) (.cells #[.int .i64 hd.k, .int .i64 hd.m, .int .i64 hd.e, .string hd.t, .slice a F.len c, .slice hd.na hd.ns.length hd.nc] 33)
  have HC := hideIt (linesToml_any hd a c F _ hF (hin.grow hB0) hl hc (hh.grow hB0))
  clear hin hh
  go_enter Try.func15, Try.ntmps15
  go_wp2_with fail
  refine HC.out.mono ?_
  rintro r w1 ⟨rfl, hb1⟩
  have hB1 := hB0.trans (hb1.mono hB0.size)
  clear HC hb1
  go_wp2_with fail
  exact bodyPost_ret (v := pairV (tput hd F)) (by simp [results, Try.results15, go_sem]) rfl ⟨rfl, hB1⟩
end Go.Proofs.Ytpgpkdeiapeoiaa
/- Values as lines: which fit as INI (the specification). -/
namespace Go.Proofs.Ytpgpkdeiapeoiaa
open Go.RowKit
/-- kinds of values that have no others in them: as the specification asks, as the program asks -/
def plS (k : Int) : Prop := k ≠ 0 ∧ k ≠ 5 ∧ k ≠ 6
def plI (k : Int) : Prop := k = 1 ∨ k = 2 ∨ k = 3 ∨ k = 4
/-- an object of objects of such -/
def iniP (Q : Int → Prop) (h : Hd) (F : Vo) : Prop := h.k = 6 ∧ F.allP (fun h' k => h'.k = 6 ∧ k.allP (fun h'' _ => Q h''.k))
theorem pl_same {F : Vo} (h : F.allOne) : F.allP (fun h'' _ => plI h''.k) ↔ F.allP (fun h'' _ => plS h''.k) := by
  induction F with
  | nil => exact Iff.rfl
  | cons hd a c kids next _ ih =>
    obtain ⟨h1, _, h3⟩ := h
    obtain ⟨⟨k0, k6⟩, _⟩ := oneJ h1
    refine and_congr ?_ (ih h3)
    show plI hd.k ↔ plS hd.k
    unfold plI plS
    omega
theorem ini_same {h : Hd} {F : Vo} (x : F.allOne) : iniP plI h F ↔ iniP plS h F := by
  refine and_congr Iff.rfl ?_
  induction F with
  | nil => exact Iff.rfl
  | cons hd a c kids next _ ih =>
    obtain ⟨_, h2, h3⟩ := x
    exact and_congr (and_congr Iff.rfl (pl_same h2)) (ih h3)
theorem pl_alike {Q : Int → Prop} : ∀ {F G : Vo}, F.alike G → (F.allP (fun h'' _ => Q h''.k) ↔ G.allP (fun h'' _ => Q h''.k)) := by
  intro F
  induction F with
  | nil => intro G h; cases G with
    | nil => exact Iff.rfl
    | cons => exact h.elim
  | cons h a c kids next _ ih2 =>
    intro G x
    cases G with
    | nil => exact x.elim
    | cons h' a' c' kids' next' =>
      obtain ⟨⟨⟨hk, -⟩, -⟩, _, z⟩ := x
      refine and_congr ?_ (ih2 z)
      show Q h.k ↔ Q h'.k
      rw [hk]
theorem ini_alike {Q : Int → Prop} {h : Hd} {n : Nat} : ∀ {F G : Vo}, F.alike G → (iniP Q (h.to n) F ↔ iniP Q h G) := by
  intro F G x
  refine and_congr Iff.rfl ?_
  revert G
  induction F with
  | nil => intro G h; cases G with
    | nil => exact Iff.rfl
    | cons => exact h.elim
  | cons h a c kids next _ ih2 =>
    intro G x
    cases G with
    | nil => exact x.elim
    | cons h' a' c' kids' next' =>
      obtain ⟨⟨⟨hk, -⟩, -⟩, y, z⟩ := x
      refine and_congr (and_congr ?_ (pl_alike y)) (ih2 z)
      show h.k = 6 ↔ h'.k = 6
      rw [hk]
set_option maxRecDepth 100000 in
set_option maxHeartbeats 1000000 in
theorem l12Plain_any (h : Hd) (a : Option Addr) (c : Nat) (F : Vo) (w : World) (hF : F.size ≤ 2000000) (hin : F.In w a) (hl : F.len ≤ c) (hc : c ≤ maxLen) :
    Calls Try.prog 37 #[valV h a F.len c] w fun r w' => SaysT (iniP plS h F) r ∧ Below w.heap.size w w' := by
  unfold maxLen at hc
  have hll := F.len_le
  have hB0 := (Below.refl _ w).alloc (Nat.le_refl _) (.cells #[.int .i64 h.k, .int .i64 h.m, .int .i64 h.e, .string h.t, .slice a F.len c, .slice h.na h.ns.length h.nc] 33)
  have R0 := Row.new w [.int .i64 h.k, .int .i64 h.m, .int .i64 h.e, .string h.t, .slice a F.len c, .slice h.na h.ns.length h.nc] 33
  have hcell0 := (R0 4 _ rfl).1
  by_cases k6 : h.k = 6
  · have k6' : (h.k != 6) = false := by simp [bne, k6]
    have HY : Hid (h.k = 6) := k6
    clear k6 R0
    go_enter Try.func37, Try.ntmps37
    go_wp2_with fail
    go_loopw [3] (fun i wr => ∃ (j : Nat) (G : Vo), i = .int .i64 j ∧ j + G.len = F.len ∧ (F.allP (fun h' k => h'.k = 6 ∧ k.allP (fun h'' _ => plS h''.k)) ↔ G.allP (fun h' k => h'.k = 6 ∧ k.allP (fun h'' _ => plS h''.k))) ∧ G.size ≤ F.size ∧ (G = .nil ∨ ∃ b o', a = some ⟨b, o', none⟩ ∧ G.From wr b (o' + j * 6)) ∧ wr.cell? ⟨w.heap.size, 4, none⟩ = some (.slice a F.len c) ∧ Below w.heap.size w wr) (fun i _ => F.len - (intOf i).toNat)
    case atStart =>
      refine ⟨0, F, rfl, by omega, Iff.rfl, Nat.le_refl _, ?_, hcell0, hB0⟩
      rcases hin with h | ⟨b, o', e1, e2⟩
      · exact .inl h
      · exact .inr ⟨b, o', e1, by simpa using Vo.from_grow hB0 F b o' e2⟩
    case round =>
      obtain ⟨j, G, rfl, hj, hs, hs1, hG, hcell, hb⟩ := hrel
      have HA := (show Hid _ from hs)
      clear hs hcell0
      cases G with
      | nil =>
        have hj' : j = F.len := by simpa [Vo.len] using hj
        have HR : Hid (iniP plS h F) := ⟨HY.out, HA.out.2 trivial⟩
        subst hj'
        clear hG hj HA HY
        go_wp2_with fail
        go_ret
        exact ⟨⟨true, rfl, fun _ => HR.out, fun _ => rfl⟩, hb⟩
      | cons h' a' c' kids next =>
        rcases hG with hG | ⟨b, o', rfl, ⟨h1, h2, h3, h4, h5, h6⟩, hk, ⟨hc1, hc2⟩, hh', hn⟩
        · cases hG
        · have hln : j + (next.len + 1) = F.len := hj
          have hlt : (j : Int) < (F.len : Int) := by omega
          have hjl : j < F.len := by omega
          have hsz : kids.size + 1 + next.size ≤ F.size := hs1
          have hkl := kids.len_le
          clear hj hs1 hin
          by_cases q6 : h'.k = 6
          case neg =>
            have q6' : (h'.k != 6) = true := by simp [bne, q6]
            have HN : Hid (¬ iniP plS h F) := fun x => q6 (HA.out.1 x.2).1.1
            clear q6
            go_wp2_with fail
            go_ret
            exact ⟨⟨false, rfl, fun h => (by cases h), fun h => absurd h HN.out⟩, hb⟩
          have q6' : (h'.k != 6) = false := by simp [bne, q6]
          have HK6 : Hid (h'.k = 6) := q6
          clear q6
          have hc2' : c' ≤ 2 ^ 63 - 1 := hc2
          go_wp2_with fail
          go_loopw [4] (fun i wr' => ∃ (j2 : Nat) (K : Vo), i = .int .i64 j2 ∧ j2 + K.len = kids.len ∧ (kids.allP (fun h'' _ => plS h''.k) ↔ K.allP (fun h'' _ => plS h''.k)) ∧ (K = .nil ∨ ∃ b2 o2, a' = some ⟨b2, o2, none⟩ ∧ K.From wr b2 (o2 + j2 * 6)) ∧ wr' = wr) (fun i _ => kids.len - (intOf i).toNat)
          case atStart =>
            refine ⟨0, kids, rfl, by omega, Iff.rfl, ?_, rfl⟩
            rcases hk with h | ⟨b2, o2, e1, e2⟩
            · exact .inl h
            · exact .inr ⟨b2, o2, e1, by simpa using e2⟩
          case round =>
            obtain ⟨j2, K, rfl, hj, hs, hG, rfl⟩ := hrel
            have HA3 := (show Hid _ from hs)
            clear hs
            cases K with
            | nil =>
              have hj' : j2 = kids.len := by simpa [Vo.len] using hj
              subst hj'
              have HA2 := (show Hid _ from HA.out.trans ⟨fun x => x.2, fun x => ⟨⟨HK6.out, HA3.out.2 trivial⟩, x⟩⟩)
              clear hG hj HA HA3 hk
              go_wp2_with fail
              go_round
              case rel =>
                refine ⟨j + 1, next, by go_num, by omega, HA2.out, by omega, .inr ⟨b, o', rfl, ?_⟩, hcell, hb⟩
                rw [show o' + (j + 1) * 6 = o' + j * 6 + 6 by omega]; exact hn
              case measure => simp [intOf]; omega
            | cons g ga gc gk gn =>
              rcases hG with hG | ⟨b2, o2, rfl, ⟨g1, g2, g3, g4, g5, g6⟩, gkk, ⟨gc1, gc2⟩, gh, ghn⟩
              · cases hG
              · have hln2 : j2 + (gn.len + 1) = kids.len := hj
                have hlt2 : (j2 : Int) < (kids.len : Int) := by omega
                have hjl2 : j2 < kids.len := by omega
                clear hj hk
                by_cases p0 : g.k = 0
                · have p0' : (g.k == 0) = true := by simp [p0]
                  have HN : Hid (¬ iniP plS h F) := fun x => (HA3.out.1 (HA.out.1 x.2).1.2).1.1 p0
                  clear p0
                  go_wp2_with fail
                  go_ret
                  exact ⟨⟨false, rfl, fun h => (by cases h), fun h => absurd h HN.out⟩, hb⟩
                have p0' : (g.k == 0) = false := by simp [p0]
                by_cases p5 : g.k = 5
                · have p5' : (g.k == 5) = true := by simp [p5]
                  have HN : Hid (¬ iniP plS h F) := fun x => (HA3.out.1 (HA.out.1 x.2).1.2).1.2.1 p5
                  clear p5 p0
                  go_wp2_with fail
                  go_ret
                  exact ⟨⟨false, rfl, fun h => (by cases h), fun h => absurd h HN.out⟩, hb⟩
                have p5' : (g.k == 5) = false := by simp [p5]
                by_cases p6 : g.k = 6
                · have p6' : (g.k == 6) = true := by simp [p6]
                  have HN : Hid (¬ iniP plS h F) := fun x => (HA3.out.1 (HA.out.1 x.2).1.2).1.2.2 p6
                  clear p6 p5 p0
                  go_wp2_with fail
                  go_ret
                  exact ⟨⟨false, rfl, fun h => (by cases h), fun h => absurd h HN.out⟩, hb⟩
                have p6' : (g.k == 6) = false := by simp [p6]
                have HA4 := (show Hid _ from HA3.out.trans ⟨fun x => x.2, fun x => ⟨⟨p0, p5, p6⟩, x⟩⟩)
                clear p0 p5 p6 HA3
                go_wp2_with fail
                go_round
                case rel =>
                  refine ⟨j2 + 1, gn, by go_num, by omega, HA4.out, .inr ⟨b2, o2, rfl, ?_⟩, trivial⟩
                  rw [show o2 + (j2 + 1) * 6 = o2 + j2 * 6 + 6 by omega]; exact ghn
                case measure => simp [intOf]; omega
  · have k6' : (h.k != 6) = true := by simp [bne, k6]
    have HN : Hid (¬ iniP plS h F) := fun x => k6 x.1
    clear hin k6
    go_enter Try.func37, Try.ntmps37
    go_wp2_with fail
    go_ret
    exact ⟨⟨false, rfl, fun h => (by cases h), fun h => absurd h HN.out⟩, hB0⟩
end Go.Proofs.Ytpgpkdeiapeoiaa
/- Values as lines, by the program: which fit as INI. -/
namespace Go.Proofs.Ytpgpkdeiapeoiaa
open Go.RowKit
attribute [local go_sem] cell_alloc_is frozen_alloc_is
set_option maxRecDepth 100000 in
set_option maxHeartbeats 1000000 in
theorem isPlain_1 (h : Hd) (a : Option Addr) (n c : Nat) (w : World) (hk : h.k = 1) :
    Calls Try.prog 58 #[valV h a n c] w fun r w' => SaysT (plI h.k) r ∧ Below w.heap.size w w' := by
  obtain ⟨k, m, e, t, na, nc, ns⟩ := h
  dsimp only at hk
  subst hk
  have HP : Hid (plI 1) := by unfold Hid plI; omega
  go_enter Try.func58, Try.ntmps58
  go_wp2_with fail
  go_ret
  exact ⟨⟨true, rfl, fun _ => HP.out, fun _ => rfl⟩, (by (repeat' (first | assumption | exact Below.refl _ _ | refine Below.alloc ?_ ?_ _ | refine Below.setCell ?_ ?_ _ | refine Below.drew ?_ | refine below_drewN ?_ _)) <;> (first | omega | (simp <;> omega)))⟩
set_option maxRecDepth 100000 in
set_option maxHeartbeats 1000000 in
theorem isPlain_2 (h : Hd) (a : Option Addr) (n c : Nat) (w : World) (hk : h.k = 2) :
    Calls Try.prog 58 #[valV h a n c] w fun r w' => SaysT (plI h.k) r ∧ Below w.heap.size w w' := by
  obtain ⟨k, m, e, t, na, nc, ns⟩ := h
  dsimp only at hk
  subst hk
  have HP : Hid (plI 2) := by unfold Hid plI; omega
  go_enter Try.func58, Try.ntmps58
  go_wp2_with fail
  go_ret
  exact ⟨⟨true, rfl, fun _ => HP.out, fun _ => rfl⟩, (by (repeat' (first | assumption | exact Below.refl _ _ | refine Below.alloc ?_ ?_ _ | refine Below.setCell ?_ ?_ _ | refine Below.drew ?_ | refine below_drewN ?_ _)) <;> (first | omega | (simp <;> omega)))⟩
set_option maxRecDepth 100000 in
set_option maxHeartbeats 1000000 in
theorem isPlain_3 (h : Hd) (a : Option Addr) (n c : Nat) (w : World) (hk : h.k = 3) :
    Calls Try.prog 58 #[valV h a n c] w fun r w' => SaysT (plI h.k) r ∧ Below w.heap.size w w' := by
  obtain ⟨k, m, e, t, na, nc, ns⟩ := h
  dsimp only at hk
  subst hk
  have HP : Hid (plI 3) := by unfold Hid plI; omega
  go_enter Try.func58, Try.ntmps58
  go_wp2_with fail
  go_ret
  exact ⟨⟨true, rfl, fun _ => HP.out, fun _ => rfl⟩, (by (repeat' (first | assumption | exact Below.refl _ _ | refine Below.alloc ?_ ?_ _ | refine Below.setCell ?_ ?_ _ | refine Below.drew ?_ | refine below_drewN ?_ _)) <;> (first | omega | (simp <;> omega)))⟩
set_option maxRecDepth 100000 in
set_option maxHeartbeats 1000000 in
theorem isPlain_4 (h : Hd) (a : Option Addr) (n c : Nat) (w : World) (hk : h.k = 4) :
    Calls Try.prog 58 #[valV h a n c] w fun r w' => SaysT (plI h.k) r ∧ Below w.heap.size w w' := by
  obtain ⟨k, m, e, t, na, nc, ns⟩ := h
  dsimp only at hk
  subst hk
  have HP : Hid (plI 4) := by unfold Hid plI; omega
  go_enter Try.func58, Try.ntmps58
  go_wp2_with fail
  go_ret
  exact ⟨⟨true, rfl, fun _ => HP.out, fun _ => rfl⟩, (by (repeat' (first | assumption | exact Below.refl _ _ | refine Below.alloc ?_ ?_ _ | refine Below.setCell ?_ ?_ _ | refine Below.drew ?_ | refine below_drewN ?_ _)) <;> (first | omega | (simp <;> omega)))⟩
set_option maxRecDepth 100000 in
set_option maxHeartbeats 1000000 in
theorem isPlain_0 (h : Hd) (a : Option Addr) (n c : Nat) (w : World) (hk : ¬ (h.k = 1 ∨ h.k = 2 ∨ h.k = 3 ∨ h.k = 4)) :
    Calls Try.prog 58 #[valV h a n c] w fun r w' => SaysT (plI h.k) r ∧ Below w.heap.size w w' := by
  obtain ⟨k, m, e, t, na, nc, ns⟩ := h
  dsimp only at hk
  have h1 : (k == 1) = false := by simp; omega
  have h2 : (k == 2) = false := by simp; omega
  have h3 : (k == 3) = false := by simp; omega
  have h4 : (k == 4) = false := by simp; omega
  have HP : Hid (¬ plI k) := hk
  clear hk
  go_enter Try.func58, Try.ntmps58
  go_wp2_with fail
  go_ret
  exact ⟨⟨false, rfl, fun h => (by cases h), fun h => absurd h HP.out⟩, (by (repeat' (first | assumption | exact Below.refl _ _ | refine Below.alloc ?_ ?_ _ | refine Below.setCell ?_ ?_ _ | refine Below.drew ?_ | refine below_drewN ?_ _)) <;> (first | omega | (simp <;> omega)))⟩
theorem isPlain_any (h : Hd) (a : Option Addr) (n c : Nat) (w : World) :
    Calls Try.prog 58 #[valV h a n c] w fun r w' => SaysT (plI h.k) r ∧ Below w.heap.size w w' := by
  by_cases hk : h.k = 1 ∨ h.k = 2 ∨ h.k = 3 ∨ h.k = 4
  · rcases hk with e | e | e | e
    · exact isPlain_1 h a n c w e
    · exact isPlain_2 h a n c w e
    · exact isPlain_3 h a n c w e
    · exact isPlain_4 h a n c w e
  · exact isPlain_0 h a n c w hk
set_option maxRecDepth 100000 in
set_option maxHeartbeats 1000000 in
theorem ofPlain_any (P : Hd → Vo → Prop) (h : Hd) (a : Option Addr) (c : Nat) (F : Vo) (w : World) (hF : F.size ≤ 2000000) (hin : F.In w a) (hl : F.len ≤ c) (hc : c ≤ maxLen)
    (hcall : ∀ (xh : Hd) (xa : Option Addr) (xc : Nat) (xk : Vo) (W : World), Below w.heap.size w W → xk.size < F.size → xk.In W xa → xk.len ≤ xc → xc ≤ maxLen → xh.In W → Calls Try.prog 58 #[valV xh xa xk.len xc] W fun r w' => SaysT (P xh xk) r ∧ Below W.heap.size W w') :
    Calls Try.prog 54 #[valV h a F.len c, .func (.func 58) #[] #[]] w fun r w' => SaysT (h.k = 6 ∧ F.allP P) r ∧ Below w.heap.size w w' := by
  unfold maxLen at hc
  have hll := F.len_le
  have hB0 := (Below.refl _ w).alloc (Nat.le_refl _) (.cells #[.int .i64 h.k, .int .i64 h.m, .int .i64 h.e, .string h.t, .slice a F.len c, .slice h.na h.ns.length h.nc] 33)
  have R0 := Row.new w [.int .i64 h.k, .int .i64 h.m, .int .i64 h.e, .string h.t, .slice a F.len c, .slice h.na h.ns.length h.nc] 33
  have hcell0 := (R0 0 _ rfl).1
  clear R0
  go_enter Try.func54, Try.ntmps54
  go_wp2_with fail
  go_loopw [10] (fun i wr => ∃ (j : Nat) (G : Vo), i = .int .i64 j ∧ j + G.len = F.len ∧ (F.allP P ↔ G.allP P) ∧ G.size ≤ F.size ∧ (G = .nil ∨ ∃ b o', a = some ⟨b, o', none⟩ ∧ G.From wr b (o' + j * 6)) ∧ wr.cell? ⟨w.heap.size, 0, none⟩ = some (.int .i64 h.k) ∧ Below w.heap.size w wr) (fun i _ => F.len - (intOf i).toNat)
  case atStart =>
    refine ⟨0, F, rfl, by omega, Iff.rfl, Nat.le_refl _, ?_, hcell0, hB0⟩
    rcases hin with h | ⟨b, o', e1, e2⟩
    · exact .inl h
    · exact .inr ⟨b, o', e1, by simpa using Vo.from_grow hB0 F b o' e2⟩
  case round =>
    obtain ⟨j, G, rfl, hj, hs, hs1, hG, hcell, hb⟩ := hrel
    have HA : Hid (F.allP P ↔ G.allP P) := hs
    clear hs hcell0
    cases G with
    | nil =>
      have hj' : j = F.len := by simpa [Vo.len] using hj
      have HR : Hid (F.allP P) := HA.out.2 trivial
      subst hj'
      clear hG hj HA hcall
      by_cases hk : h.k = 6
      · have hk' : (h.k == 6) = true := by simp [hk]
        have HK : Hid (h.k = 6) := hk
        clear hk
        go_wp2_with fail
        go_ret
        exact ⟨⟨true, rfl, fun _ => ⟨HK.out, HR.out⟩, fun _ => rfl⟩, hb⟩
      · have hk' : (h.k == 6) = false := by simp [hk]
        have HK : Hid (¬ h.k = 6) := hk
        clear hk
        go_wp2_with fail
        go_ret
        exact ⟨⟨false, rfl, fun h => (by cases h), fun h => absurd h.1 HK.out⟩, hb⟩
    | cons h' a' c' kids next =>
      rcases hG with hG | ⟨b, o', rfl, ⟨h1, h2, h3, h4, h5, h6⟩, hk, ⟨hc1, hc2⟩, hh', hn⟩
      · cases hG
      · have hln : j + (next.len + 1) = F.len := hj
        have hlt : (j : Int) < (F.len : Int) := by omega
        have hjl : j < F.len := by omega
        have hsz : kids.size + 1 + next.size ≤ F.size := hs1
        have hbx := (Below.refl _ wr).alloc (Nat.le_refl _) (.cells #[.int .i64 h'.k, .int .i64 h'.m, .int .i64 h'.e, .string h'.t, .slice a' kids.len c', .slice h'.na h'.ns.length h'.nc] 33)
        have hbb := hb.trans (hbx.mono hb.size)
        have HC := hideIt (hcall h' a' c' kids _ hbb (by omega) (Vo.In.grow (F := kids) hk hbx) hc1 hc2 (hh'.grow hbx))
        have HN2 := hideIt (Vo.from_grow hbx next b _ hn)
        have hcell1 := (hbx.cell (p := ⟨w.heap.size, 0, none⟩) (World.block_lt_of_cell? wr _ hcell)).trans hcell
        clear hj hs1 hin hcall hk hh' hn hbx
        go_wp2_with fail
        refine HC.out.mono ?_
        rintro r w2 ⟨⟨q, rfl, hq⟩, hb2⟩
        have HQ : Hid (q = true ↔ P h' kids) := hq
        have HN3 := hideIt (Vo.from_grow hb2 next b _ HN2.out)
        have hcell2 : w2.cell? ⟨w.heap.size, 0, none⟩ = some (.int .i64 h.k) := (hb2.cell (p := ⟨w.heap.size, 0, none⟩) (World.block_lt_of_cell? _ _ hcell1)).trans hcell1
        have hb3 := hbb.trans (hb2.mono hbb.size)
        clear h1 h2 h3 h4 h5 h6 hcell hcell1 hb2 hb hbb hq HC HN2
        cases q
        · have HN : Hid (¬ (h.k = 6 ∧ F.allP P)) := fun x => by
            have := HQ.out.2 (HA.out.1 x.2).1
            cases this
          go_wp2_with fail
          go_ret
          exact ⟨⟨false, rfl, fun h => (by cases h), fun h => absurd h HN.out⟩, hb3⟩
        · have HA2 : Hid (F.allP P ↔ next.allP P) := HA.out.trans ⟨fun x => x.2, fun x => ⟨HQ.out.1 rfl, x⟩⟩
          clear HQ HA
          go_wp2_with fail
          go_round
          case rel =>
            refine ⟨j + 1, next, by go_num, by omega, HA2.out, by omega, .inr ⟨b, o', rfl, ?_⟩, hcell2, hb3⟩
            rw [show o' + (j + 1) * 6 = o' + j * 6 + 6 by omega]; exact HN3.out
          case measure => simp [intOf]; omega
set_option maxRecDepth 100000 in
set_option maxHeartbeats 1000000 in
theorem fitsIni1_any (h : Hd) (a : Option Addr) (c : Nat) (F : Vo) (w : World) (hF : F.size ≤ 2000000) (hin : F.In w a) (hl : F.len ≤ c) (hc : c ≤ maxLen) :
    Calls Try.prog 57 #[valV h a F.len c] w fun r w' => SaysT (h.k = 6 ∧ F.allP (fun h'' _ => plI h''.k)) r ∧ Below w.heap.size w w' := by
  have hB0 := (Below.refl _ w).alloc (Nat.le_refl _) (.cells #[.int .i64 h.k, .int .i64 h.m, .int .i64 h.e, .string h.t, .slice a F.len c, .slice h.na h.ns.length h.nc] 33)
  have HC := hideIt (ofPlain_any (fun h'' _ => plI h''.k) h a c F _ hF (hin.grow hB0) hl hc (fun xh xa xc xk W _ _ _ _ _ _ => isPlain_any xh xa xk.len xc W))
  clear hin
  go_enter Try.func57, Try.ntmps57
  go_wp2_with fail
  refine HC.out.mono ?_
  rintro r w1 ⟨⟨q, rfl, hq⟩, hb1⟩
  have HQ := hideIt hq
  have hB1 := hB0.trans (hb1.mono hB0.size)
  clear hq hb1 HC
  go_wp2_with fail
  go_ret
  exact ⟨⟨q, rfl, HQ.out⟩, hB1⟩
set_option maxRecDepth 100000 in
set_option maxHeartbeats 1000000 in
theorem isIni_any (P : Hd → Vo → Prop) (h : Hd) (a : Option Addr) (c : Nat) (F : Vo) (w : World) (hF : F.size ≤ 2000000) (hin : F.In w a) (hl : F.len ≤ c) (hc : c ≤ maxLen)
    (hcall : ∀ (xh : Hd) (xa : Option Addr) (xc : Nat) (xk : Vo) (W : World), Below w.heap.size w W → xk.size < F.size → xk.In W xa → xk.len ≤ xc → xc ≤ maxLen → xh.In W → Calls Try.prog 57 #[valV xh xa xk.len xc] W fun r w' => SaysT (P xh xk) r ∧ Below W.heap.size W w') :
    Calls Try.prog 54 #[valV h a F.len c, .func (.func 57) #[] #[]] w fun r w' => SaysT (h.k = 6 ∧ F.allP P) r ∧ Below w.heap.size w w' := by
  unfold maxLen at hc
  have hll := F.len_le
  have hB0 := (Below.refl _ w).alloc (Nat.le_refl _) (.cells #[.int .i64 h.k, .int .i64 h.m, .int .i64 h.e, .string h.t, .slice a F.len c, .slice h.na h.ns.length h.nc] 33)
  have R0 := Row.new w [.int .i64 h.k, .int .i64 h.m, .int .i64 h.e, .string h.t, .slice a F.len c, .slice h.na h.ns.length h.nc] 33
  have hcell0 := (R0 0 _ rfl).1
  clear R0
  go_enter Try.func54, Try.ntmps54
  go_wp2_with fail
  go_loopw [10] (fun i wr => ∃ (j : Nat) (G : Vo), i = .int .i64 j ∧ j + G.len = F.len ∧ (F.allP P ↔ G.allP P) ∧ G.size ≤ F.size ∧ (G = .nil ∨ ∃ b o', a = some ⟨b, o', none⟩ ∧ G.From wr b (o' + j * 6)) ∧ wr.cell? ⟨w.heap.size, 0, none⟩ = some (.int .i64 h.k) ∧ Below w.heap.size w wr) (fun i _ => F.len - (intOf i).toNat)
  case atStart =>
    refine ⟨0, F, rfl, by omega, Iff.rfl, Nat.le_refl _, ?_, hcell0, hB0⟩
    rcases hin with h | ⟨b, o', e1, e2⟩
    · exact .inl h
    · exact .inr ⟨b, o', e1, by simpa using Vo.from_grow hB0 F b o' e2⟩
  case round =>
    obtain ⟨j, G, rfl, hj, hs, hs1, hG, hcell, hb⟩ := hrel
    have HA : Hid (F.allP P ↔ G.allP P) := hs
    clear hs hcell0
    cases G with
    | nil =>
      have hj' : j = F.len := by simpa [Vo.len] using hj
      have HR : Hid (F.allP P) := HA.out.2 trivial
      subst hj'
      clear hG hj HA hcall
      by_cases hk : h.k = 6
      · have hk' : (h.k == 6) = true := by simp [hk]
        have HK : Hid (h.k = 6) := hk
        clear hk
        go_wp2_with fail
        go_ret
        exact ⟨⟨true, rfl, fun _ => ⟨HK.out, HR.out⟩, fun _ => rfl⟩, hb⟩
      · have hk' : (h.k == 6) = false := by simp [hk]
        have HK : Hid (¬ h.k = 6) := hk
        clear hk
        go_wp2_with fail
        go_ret
        exact ⟨⟨false, rfl, fun h => (by cases h), fun h => absurd h.1 HK.out⟩, hb⟩
    | cons h' a' c' kids next =>
      rcases hG with hG | ⟨b, o', rfl, ⟨h1, h2, h3, h4, h5, h6⟩, hk, ⟨hc1, hc2⟩, hh', hn⟩
      · cases hG
      · have hln : j + (next.len + 1) = F.len := hj
        have hlt : (j : Int) < (F.len : Int) := by omega
        have hjl : j < F.len := by omega
        have hsz : kids.size + 1 + next.size ≤ F.size := hs1
        have hbx := (Below.refl _ wr).alloc (Nat.le_refl _) (.cells #[.int .i64 h'.k, .int .i64 h'.m, .int .i64 h'.e, .string h'.t, .slice a' kids.len c', .slice h'.na h'.ns.length h'.nc] 33)
        have hbb := hb.trans (hbx.mono hb.size)
        have HC := hideIt (hcall h' a' c' kids _ hbb (by omega) (Vo.In.grow (F := kids) hk hbx) hc1 hc2 (hh'.grow hbx))
        have HN2 := hideIt (Vo.from_grow hbx next b _ hn)
        have hcell1 := (hbx.cell (p := ⟨w.heap.size, 0, none⟩) (World.block_lt_of_cell? wr _ hcell)).trans hcell
        clear hj hs1 hin hcall hk hh' hn hbx
        go_wp2_with fail
        refine HC.out.mono ?_
        rintro r w2 ⟨⟨q, rfl, hq⟩, hb2⟩
        have HQ : Hid (q = true ↔ P h' kids) := hq
        have HN3 := hideIt (Vo.from_grow hb2 next b _ HN2.out)
        have hcell2 : w2.cell? ⟨w.heap.size, 0, none⟩ = some (.int .i64 h.k) := (hb2.cell (p := ⟨w.heap.size, 0, none⟩) (World.block_lt_of_cell? _ _ hcell1)).trans hcell1
        have hb3 := hbb.trans (hb2.mono hbb.size)
        clear h1 h2 h3 h4 h5 h6 hcell hcell1 hb2 hb hbb hq HC HN2
        cases q
        · have HN : Hid (¬ (h.k = 6 ∧ F.allP P)) := fun x => by
            have := HQ.out.2 (HA.out.1 x.2).1
            cases this
          go_wp2_with fail
          go_ret
          exact ⟨⟨false, rfl, fun h => (by cases h), fun h => absurd h HN.out⟩, hb3⟩
        · have HA2 : Hid (F.allP P ↔ next.allP P) := HA.out.trans ⟨fun x => x.2, fun x => ⟨HQ.out.1 rfl, x⟩⟩
          clear HQ HA
          go_wp2_with fail
          go_round
          case rel =>
            refine ⟨j + 1, next, by go_num, by omega, HA2.out, by omega, .inr ⟨b, o', rfl, ?_⟩, hcell2, hb3⟩
            rw [show o' + (j + 1) * 6 = o' + j * 6 + 6 by omega]; exact HN3.out
          case measure => simp [intOf]; omega
set_option maxRecDepth 100000 in
set_option maxHeartbeats 1000000 in
theorem fitsIni_any (h : Hd) (a : Option Addr) (c : Nat) (F : Vo) (w : World) (hF : F.size ≤ 2000000) (hin : F.In w a) (hl : F.len ≤ c) (hc : c ≤ maxLen) :
    Calls Try.prog 38 #[valV h a F.len c] w fun r w' => SaysT (iniP plI h F) r ∧ Below w.heap.size w w' := by
  have hB0 := (Below.refl _ w).alloc (Nat.le_refl _) (.cells #[.int .i64 h.k, .int .i64 h.m, .int .i64 h.e, .string h.t, .slice a F.len c, .slice h.na h.ns.length h.nc] 33)
  have HC := hideIt (isIni_any (fun h' k => h'.k = 6 ∧ k.allP (fun h'' _ => plI h''.k)) h a c F _ hF (hin.grow hB0) hl hc (fun xh xa xc xk W _ hz hi h1 h2 _ => fitsIni1_any xh xa xc xk W (by omega) hi h1 h2))
  clear hin
  go_enter Try.func38, Try.ntmps38
  go_wp2_with fail
  refine HC.out.mono ?_
  rintro r w1 ⟨⟨q, rfl, hq⟩, hb1⟩
  have HQ := hideIt hq
  have hB1 := hB0.trans (hb1.mono hB0.size)
  clear hq hb1 HC
  go_wp2_with fail
  go_ret
  exact ⟨⟨q, rfl, HQ.out⟩, hB1⟩
end Go.Proofs.Ytpgpkdeiapeoiaa
/- Values as lines: IniPut of the specification and of the program. -/
namespace Go.Proofs.Ytpgpkdeiapeoiaa
open Go.RowKit
attribute [local go_sem] cell_alloc_is frozen_alloc_is
open Classical in
/-- what IniPut answers -/
noncomputable def iput (h : Hd) (F : Vo) : ByteArray × Bool := if ValOk h F ∧ iniP plS h F then (⟨(ttext 200 h F []).toArray⟩, true) else (⟨#[]⟩, false)
theorem iput_ok {h : Hd} {F : Vo} (x : ValOk h F ∧ iniP plS h F) : iput h F = (⟨(ttext 200 h F []).toArray⟩, true) := if_pos x
theorem iput_no {h : Hd} {F : Vo} (x : ¬ (ValOk h F ∧ iniP plS h F)) : iput h F = (⟨#[]⟩, false) := if_neg x
theorem iput_copy {h : Hd} {n : Nat} {F F1 : Vo} (x : F1.alike F) : iput (h.to n) F1 = iput h F := by
  have e : iniP plS (h.to n) F1 = iniP plS h F := propext (ini_alike x)
  unfold iput
  rw [propext (ok_copy x), e, ttext_alike 200 (h := h.to n) (h' := h) [] ⟨⟨rfl, rfl, rfl, rfl⟩, rfl⟩ x]
set_option maxRecDepth 100000 in
set_option maxHeartbeats 1000000 in
theorem sIniPut_any (hd : Hd) (a : Option Addr) (c : Nat) (F : Vo) (w : World) (hF : F.size ≤ 1048576) (hin : F.In w a) (hl : F.len ≤ c) (hc : c ≤ maxLen) (hh : hd.In w) :
    Calls Try.prog 16 #[valV hd a F.len c] w fun r w' => r = .returned (pairV (iput hd F)) ∧ Below w.heap.size w w' := by
  obtain ⟨wp, hwp⟩ : ∃ wp, wp = w.alloc (.cells #[.int .i64 hd.k, .int .i64 hd.m, .int .i64 hd.e, .string hd.t, .slice a F.len c, .slice hd.na hd.ns.length hd.nc] 33) := ⟨_, rfl⟩
  have hBp : Below w.heap.size w wp := by subst hwp; exact (Below.refl _ w).alloc (Nat.le_refl _) _
  have hA : BxV w.heap.size hd (.slice a F.len c) wp := by subst hwp; exact BxV.new w hd _ _
  have hX1 : Hid (∀ W, Below wp.heap.size wp W → BxV w.heap.size hd (.slice a F.len c) W) := fun W hW => hA.below hW
  have HI : Hid (∀ W, Below wp.heap.size wp W → (F.In W a ∧ hd.In W) ∧ Below w.heap.size w W) := fun W hW => by
    have hb := hBp.trans (hW.mono hBp.size)
    exact ⟨⟨hin.grow hb, hh.grow hb⟩, hb⟩
  have HW := hideIt hwp
  have hB0 := Below.refl wp.heap.size wp
  clear hwp hA hin hh hBp
  go_enter Try.func16, Try.ntmps16
  go_wp2_with fail
  rw [← HW.out]
  clear HW
  refine (sValueOk_any hd a c F _ (by omega) (HI.out _ hB0).1.1 hl hc (HI.out _ hB0).1.2).mono ?_
  rintro r w1 ⟨⟨q1, rfl, hq1⟩, hb1⟩
  have HQ1 := hideIt hq1
  clear hq1
  obtain ⟨x0, x1, x2, x3, x4, x5⟩ := hX1.out _ hb1
  cases q1
  · have HR : Hid (iput hd F = (⟨#[]⟩, false)) := iput_no (fun x => by have := HQ1.out.2 x.1; cases this)
    have hbb := (HI.out _ hb1).2
    go_wp2_with fail
    exact bodyPost_ret (v := pairV (⟨#[]⟩, false)) (by simp [results, Try.results16, go_sem]) rfl ⟨by rw [HR.out], hbb⟩
  · have hv : ValOk hd F := by have q := HQ1.out; simpa using q
    have HV := hideIt hv
    have hs2 : F.size + 1 ≤ 200 := hv.1
    clear HQ1 hv
    go_wp2_with fail
    refine (l12Plain_any hd a c F _ (by omega) (HI.out _ hb1).1.1 hl hc).mono ?_
    rintro r w2 ⟨⟨q2, rfl, hq2⟩, hb2⟩
    have HQ2 := hideIt hq2
    have hB2 := hb1.trans (hb2.mono hb1.size)
    clear hq2 x0 x1 x2 x3 x4 x5 hb2
    obtain ⟨x0, x1, x2, x3, x4, x5⟩ := hX1.out _ hB2
    cases q2
    · have HR : Hid (iput hd F = (⟨#[]⟩, false)) := iput_no (fun x => by have := HQ2.out.2 x.2; cases this)
      have hbb := (HI.out _ hB2).2
      go_wp2_with fail
      exact bodyPost_ret (v := pairV (⟨#[]⟩, false)) (by simp [results, Try.results16, go_sem]) rfl ⟨by rw [HR.out], hbb⟩
    · have hf : iniP plS hd F := by have q := HQ2.out; simpa using q
      have HR : Hid (iput hd F = (⟨(ttext 200 hd F []).toArray⟩, true)) := iput_ok ⟨HV.out, hf⟩
      have HF := hideIt hf
      clear HQ2 hf
      go_wp2_with fail
      refine (l12Toml_all 200 hd a c F ⟨#[]⟩ _ (by omega) (by omega) (by show 0 + 13 * 200 ≤ 3000; omega) HF.out.1 ⟨HV.out.2.2.1, HV.out.2.2.2⟩ (HI.out _ hB2).1.1 hl hc (HI.out _ hB2).1.2).mono ?_
      rintro r w3 ⟨rfl, hb3⟩
      have hbb := (HI.out _ (hB2.trans (hb3.mono hB2.size))).2
      clear x0 x1 x2 x3 x4 x5
      go_wp2_with fail
      exact bodyPost_ret (v := pairV (⟨(ttext 200 hd F []).toArray⟩, true)) (by simp [results, Try.results16, go_sem]) rfl ⟨by rw [HR.out], hbb⟩
set_option maxRecDepth 100000 in
set_option maxHeartbeats 1000000 in
theorem linesIni_any (hd : Hd) (a : Option Addr) (c : Nat) (F : Vo) (w : World) (hF : F.size ≤ 1048576) (hin : F.In w a) (hl : F.len ≤ c) (hc : c ≤ maxLen) (hh : hd.In w) :
    Calls Try.prog 35 #[valV hd a F.len c, .func (.func 38) #[] #[]] w fun r w' => r = .returned (pairV (iput hd F)) ∧ Below w.heap.size w w' := by
  obtain ⟨wp, hwp⟩ : ∃ wp, wp = w.alloc (.cells #[.int .i64 hd.k, .int .i64 hd.m, .int .i64 hd.e, .string hd.t, .slice a F.len c, .slice hd.na hd.ns.length hd.nc] 33) := ⟨_, rfl⟩
  have hBp : Below w.heap.size w wp := by subst hwp; exact (Below.refl _ w).alloc (Nat.le_refl _) _
  have hA : BxV w.heap.size hd (.slice a F.len c) wp := by subst hwp; exact BxV.new w hd _ _
  have hX1 : Hid (∀ W, Below wp.heap.size wp W → BxV w.heap.size hd (.slice a F.len c) W) := fun W hW => hA.below hW
  have HI : Hid (∀ W, Below wp.heap.size wp W → (F.In W a ∧ hd.In W) ∧ Below w.heap.size w W) := fun W hW => by
    have hb := hBp.trans (hW.mono hBp.size)
    exact ⟨⟨hin.grow hb, hh.grow hb⟩, hb⟩
  have HW := hideIt hwp
  have hB0 := Below.refl wp.heap.size wp
  clear hwp hA hin hh hBp
  go_enter Try.func35, Try.ntmps35
  go_wp2_with fail
  rw [← HW.out]
  clear HW
  refine (iValueOk_any hd a c F _ (by omega) (HI.out _ hB0).1.1 hl hc (HI.out _ hB0).1.2).mono ?_
  rintro r w1 ⟨⟨q1, rfl, hq1⟩, hb1⟩
  have HQ1 := hideIt (hq1.trans (good_ok _ _))
  clear hq1
  obtain ⟨x0, x1, x2, x3, x4, x5⟩ := hX1.out _ hb1
  cases q1
  · have HR : Hid (iput hd F = (⟨#[]⟩, false)) := iput_no (fun x => by have := HQ1.out.2 x.1; cases this)
    have hbb := (HI.out _ hb1).2
    go_wp2_with fail
    exact bodyPost_ret (v := pairV (⟨#[]⟩, false)) (by simp [results, Try.results35, go_sem]) rfl ⟨by rw [HR.out], hbb⟩
  · have hv : ValOk hd F := HQ1.out.1 rfl
    have HV := hideIt hv
    have hs2 : F.size + 1 ≤ 200 := hv.1
    clear HQ1 hv
    go_wp2_with fail
    refine (fitsIni_any hd a c F _ (by omega) (HI.out _ hb1).1.1 hl hc).mono ?_
    rintro r w1' ⟨⟨q2, rfl, hq2⟩, hb1'⟩
    have HQ2 := hideIt (hq2.trans (ini_same HV.out.2.2.2))
    have hb1 := hb1.trans (hb1'.mono hb1.size)
    clear hq2 x0 x1 x2 x3 x4 x5 hb1'
    obtain ⟨x0, x1, x2, x3, x4, x5⟩ := hX1.out _ hb1
    cases q2
    · have HR : Hid (iput hd F = (⟨#[]⟩, false)) := iput_no (fun x => by have := HQ2.out.2 x.2; cases this)
      have hbb := (HI.out _ hb1).2
      go_wp2_with fail
      exact bodyPost_ret (v := pairV (⟨#[]⟩, false)) (by simp [results, Try.results35, go_sem]) rfl ⟨by rw [HR.out], hbb⟩
    have hf : iniP plS hd F := by have q := HQ2.out; simpa using q
    have HR : Hid (iput hd F = (⟨(ttext 200 hd F []).toArray⟩, true)) := iput_ok ⟨HV.out, hf⟩
    have HF := hideIt hf
    clear HQ2 hf
    go_wp2_with fail
    have hH : Holds w1'.heap.size w1'.heap.size [] (w1'.alloc (.cells #[.pointer none, .slice none 0 0] 48)) := by
      have := Lib.IsBuilderF.of (Lib.fresh_isBuilder 48 5 w1')
      exact this
    obtain ⟨w2, hw2⟩ : ∃ w2, w1'.alloc (.cells #[.pointer none, .slice none 0 0] 48) = w2 := ⟨_, rfl⟩
    have hb2 : Below w1'.heap.size w1' w2 := by rw [← hw2]; exact (Below.refl _ w1').alloc (Nat.le_refl _) _
    rw [hw2] at hH ⊢
    have hz2 : w2.heap.size = w1'.heap.size + 1 := by rw [← hw2]; simp
    clear hw2
    have hbv : w.heap.size < w1'.heap.size := World.block_lt_of_cell? _ _ x0
    have hA2 := hX1.out _ (hb1.trans (hb2.mono hb1.size))
    clear x0 x1 x2 x3 x4 x5
    refine lp4 (L := ttext 200 hd F []) (B := w1'.heap.size) hA2 (fun W' hW => ?_) hbv (by omega) (fun _ d _ _ _ h => by cases d <;> exact h) ?_
    · exact (object_all 200 hd a c F ⟨#[]⟩ [] w1'.heap.size w1'.heap.size W' w1' (by omega) (by omega) (by show 0 + 13 * 200 ≤ 3000; omega) HF.out.1 (by rw [List.length_nil]; omega) ⟨HV.out.2.2.1, HV.out.2.2.2⟩ (HI.out _ hb1).1.1 hl hc (HI.out _ hb1).1.2 (Nat.le_refl _) (Nat.le_refl _) (hb2.trans (hW.mono hb2.size)) (holds_belowJ hH hW) (by have := hW.size; omega)).mono (fun _ _ h => ⟨h.1, by simpa using h.2⟩)
    intro w4 v16 v17 v18 h4
    have HW4 := hideIt h4
    have hb34 := h4.2.1
    have hz4 := hb34.size
    clear h4 hA2
    go_wp2_with fail
    refine (bString _ _ _ _ HW4.out.1.1 HW4.out.1.2).mono ?_
    rintro e w5 ⟨rfl, h5, b5, k5⟩
    have hbe := (HI.out _ (hb1.trans ((hb2.trans (hb34.trans b5)).mono hb1.size))).2
    go_wp2_with fail
    exact bodyPost_ret (v := pairV (⟨(ttext 200 hd F []).toArray⟩, true)) (by simp [results, Try.results35, go_sem]) rfl ⟨by rw [HR.out], hbe⟩
set_option maxRecDepth 100000 in
set_option maxHeartbeats 1000000 in
theorem iIniPut_any (hd : Hd) (a : Option Addr) (c : Nat) (F : Vo) (w : World) (hF : F.size ≤ 1048576) (hin : F.In w a) (hl : F.len ≤ c) (hc : c ≤ maxLen) (hh : hd.In w) :
    Calls Try.prog 17 #[valV hd a F.len c] w fun r w' => r = .returned (pairV (iput hd F)) ∧ Below w.heap.size w w' := by
  have hB0 := (Below.refl _ w).alloc (Nat.le_refl _) (.cells #[.int .i64 hd.k, .int .i64 hd.m, .int .i64 hd.e, .string hd.t, .slice a F.len c, .slice hd.na hd.ns.length hd.nc] 33)
  have HC := hideIt (linesIni_any hd a c F _ hF (hin.grow hB0) hl hc (hh.grow hB0))
  clear hin hh
  go_enter Try.func17, Try.ntmps17
  go_wp2_with fail
  refine HC.out.mono ?_
  rintro r w1 ⟨rfl, hb1⟩
  have hB1 := hB0.trans (hb1.mono hB0.size)
  clear HC hb1
  go_wp2_with fail
  exact bodyPost_ret (v := pairV (iput hd F)) (by simp [results, Try.results17, go_sem]) rfl ⟨rfl, hB1⟩
end Go.Proofs.Ytpgpkdeiapeoiaa
/- Trees: what is read as a tree, or as a list of trees, is one: the argument of a law opened. -/
namespace Go.Proofs.Ytpgpkdeiapeoiaa
open Go.RowKit Go.Deep Go.ChangeShapes Go.WideShapes
/-- all heads in it are such -/
def Fo.All (P : Int → ByteArray → Int → Int → Prop) : Fo → Prop
  | .nil => True
  | .cons k t m e _ _ kids next => P k t m e ∧ kids.All P ∧ next.All P
abbrev I64 (n : Int) : Prop := (Lit.int .i64 n).wf = true
/-- numbers that are numbers, texts that are no longer than texts can be -/
abbrev HeadOk (k : Int) (t : ByteArray) (m e : Int) : Prop := I64 k ∧ t.size ≤ maxLen ∧ I64 m ∧ I64 e
section
variable {H : Type} {enc : TypeId × Value → H} {W : World} {base : Nat} {spare : Nat → Bool} {held : Bool}
theorem cellsDec : Try.prog.cellsOf 23 = 2 := by kernel_rfl
theorem cellsInt : Try.prog.cellsOf 3 = 1 := by kernel_rfl
theorem cellsStr : Try.prog.cellsOf 9 = 1 := by kernel_rfl
theorem list5 {α : Type} {cs : List α} (h : cs.length = 5) : ∃ c0 c1 c2 c3 c4, cs = [c0, c1, c2, c3, c4] := by
  match cs, h with
  | [c0, c1, c2, c3, c4], _ => exact ⟨c0, c1, c2, c3, c4, rfl⟩
theorem list4 {α : Type} {cs : List α} (h : cs.length = 4) : ∃ c0 c1 c2 c3, cs = [c0, c1, c2, c3] := by
  match cs, h with
  | [c0, c1, c2, c3], _ => exact ⟨c0, c1, c2, c3, rfl⟩
theorem list2 {α : Type} {cs : List α} (h : cs.length = 2) : ∃ c0 c1, cs = [c0, c1] := by
  match cs, h with
  | [c0, c1], _ => exact ⟨c0, c1, rfl⟩
theorem open_dec {fuel : Nat} {cs : List Value} {x : DataW H × List MemPlace} (h : DataW.trod enc Try.prog W base spare held fuel 23 cs = some x) :
    ∃ (m e : Int), cs = [.int .i64 m, .int .i64 e] ∧ I64 m ∧ I64 e := by
  obtain ⟨xs, n, rfl, _, hl, hxs, hf⟩ := DataW.trod_struct Try.underlying23 h
  rw [cellsDec] at hl
  obtain ⟨c0, c1, rfl⟩ := list2 hl
  obtain ⟨y0, y1, rfl⟩ := list2 (show xs.length = 2 from hxs)
  have h0 := hf 0 _ rfl
  have h1 := hf 1 _ rfl
  simp [cellsInt] at h0 h1
  obtain ⟨m, e0, _, w0⟩ := DataW.trod_int Try.underlying3 h0
  obtain ⟨e, e1, _, w1⟩ := DataW.trod_int Try.underlying3 h1
  simp at e0 e1
  subst e0 e1
  exact ⟨m, e, rfl, w0, w1⟩
theorem add_none (b o i : Nat) : Addr.add ⟨b, o, none⟩ i = ⟨b, o + i, none⟩ := by
  by_cases hi0 : i = 0
  · subst hi0; simp [Addr.add]
  · simp [Addr.add, hi0]
end
end Go.Proofs.Ytpgpkdeiapeoiaa
