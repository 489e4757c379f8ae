/- My own texts, joined: Jk Ic Id Ie Ij FoO Vg LawToml. -/
import Derived.Test.YtpgpkdeiapeoiaaJTomlPut10
import Derived.Test.YtpgpkdeiapeoiaaJTomlPut0
import Derived.Test.YtpgpkdeiapeoiaaJTomlPut11
import Derived.Test.YtpgpkdeiapeoiaaJTomlPut4
import Derived.Deep.Slices
import Derived.OpenShut
import Derived.Test.YtpgpkdeiapeoiaaJTomlPut5
/- Values as JSON, by the specification: l7Put, JsonPut. -/
namespace Go.Proofs.Ytpgpkdeiapeoiaa
open Go.RowKit
theorem str_eq {a b : ByteArray} (h : a.data.toList = b.data.toList) : Value.string a = .string b := by
  have : a = b := by cases a; cases b; simpa using h
  rw [this]
def SPut (N : Nat) : Prop := ∀ (h : Hd) (a : Option Addr) (c : Nat) (F : Vo) (w : World), F.size < N → N ≤ 490 → FitJ h F → F.In w a → F.len ≤ c → c ≤ maxLen → h.In w →
  Calls Try.prog 21 #[valV h a F.len c] w fun r w' => r = .returned (.string ⟨(jtext [] [] N h F []).toArray⟩) ∧ Below w.heap.size w w'
set_option linter.unusedSimpArgs false in
set_option maxRecDepth 100000 in
set_option maxHeartbeats 2000000 in
theorem l7Put_step (N : Nat) (H : SPut N) : SPut (N + 1) := by
  intro h a c F w hF hN hfit hin hl hc hh
  obtain ⟨k, m, e, t, na, nc, ns⟩ := h
  have hone := oneJ hfit.1
  dsimp only at hone
  obtain ⟨⟨k0, k6⟩, k3, k4, k66, k44⟩ := hone
  have HK := hideIt (And.intro k3 (And.intro k4 k66))
  clear k3 k4 k66 k44
  obtain rfl | rfl | rfl | rfl | rfl | rfl | rfl : k = 0 ∨ k = 1 ∨ k = 2 ∨ k = 3 ∨ k = 4 ∨ k = 5 ∨ k = 6 := by omega
  · clear k0 k6
    clear hfit hin hh H HK
    go_enter Try.func21, Try.ntmps21
    go_wp2_with fail
    go_ret
    exact ⟨rfl, (Below.refl _ w).alloc (Nat.le_refl _) _⟩
  · clear k0 k6
    clear hfit hin hh H HK
    go_enter Try.func21, Try.ntmps21
    go_wp2_with fail
    go_ret
    exact ⟨rfl, (Below.refl _ w).alloc (Nat.le_refl _) _⟩
  · clear k0 k6
    clear hfit hin hh H HK
    go_enter Try.func21, Try.ntmps21
    go_wp2_with fail
    go_ret
    exact ⟨rfl, (Below.refl _ w).alloc (Nat.le_refl _) _⟩
  · clear k0 k6
    have ho := (Dm.ok_iff m e).1 (HK.out.1 rfl)
    have HT : Hid (jtext [] [] (N + 1) ⟨3, m, e, t, na, nc, ns⟩ F [] = Tm.text m e) := rfl
    have HB := hideIt ho
    clear hfit hin hh H HK ho
    go_enter Try.func21, Try.ntmps21
    go_wp2_with fail
    refine (l1Text_any m e _ (by have := HB.out; omega) (by have := HB.out; omega) (by have := HB.out; omega) (by have := HB.out; omega)).mono ?_
    rintro r w1 ⟨rfl, hb1⟩
    have hB1 := ((Below.refl _ w).alloc (Nat.le_refl _) (.cells #[.int .i64 3, .int .i64 m, .int .i64 e, .string t, .slice a F.len c, .slice na ns.length nc] 33)).trans (hb1.mono (by simp))
    clear hb1
    go_wp2_with fail
    go_ret
    exact ⟨by rw [HT.out]; rfl, hB1⟩
  · clear k0 k6
    have hts := HK.out.2.1 rfl
    have HT : Hid (jtext [] [] (N + 1) ⟨4, m, e, t, na, nc, ns⟩ F [] = Qm.jquote t.data.toList) := rfl
    clear hfit hin hh H HK
    go_enter Try.func21, Try.ntmps21
    go_wp2_with fail
    refine (l7Quote_any t _ (by omega)).mono ?_
    rintro r w1 ⟨rfl, hb1⟩
    have hB1 := ((Below.refl _ w).alloc (Nat.le_refl _) (.cells #[.int .i64 4, .int .i64 m, .int .i64 e, .string t, .slice a F.len c, .slice na ns.length nc] 33)).trans (hb1.mono (by simp))
    clear hb1
    go_wp2_with fail
    go_ret
    exact ⟨by rw [HT.out]; rfl, hB1⟩
  · clear k0 k6
    have hll := F.len_le
    obtain ⟨n, hn⟩ : ∃ n, F.len = n := ⟨_, rfl⟩
    have HNl := hideIt hn
    have HT : Hid (jtext [] [] (N + 1) ⟨5, m, e, t, na, nc, ns⟩ F [] = [91] ++ (jitems [] [] (jtext [] [] N) false [] F [] n ++ [93])) := by
      unfold Hid jtext jinner
      rw [← hn]
      have : (if F.len = 0 then ([] : List UInt8) else []) = [] := by split <;> rfl
      simp [this]
    have HLn : Hid (∀ j, j ≤ n → (jitems [] [] (jtext [] [] N) false [] F [] j).length ≤ 13000 * F.sumJ j) := by
      unfold Hid
      rw [← hn]
      exact jitems_len (by simp) (by simp) (by simp) (fun i hi => jtext_len (by simp) (by simp) N _ _ _ (by simp only [List.append_nil, List.length_nil]; omega) (fitJ_at hi hfit.2)) false (fun e i => by cases e)
    have HS : Hid (∀ j, j ≤ n → F.sumJ j ≤ F.size) := fun j hj => by
      have h1 := sumJ_le F (i := j) (n := F.len) (by omega)
      rw [sumJ_len] at h1
      exact h1
    obtain ⟨wp, hwp⟩ : ∃ wp, wp = w.alloc (.cells #[.int .i64 5, .int .i64 m, .int .i64 e, .string t, .slice a F.len c, .slice na ns.length nc] 33) := ⟨_, rfl⟩
    have hBp : Below w.heap.size w wp := by subst hwp; exact (Below.refl _ w).alloc (Nat.le_refl _) _
    have hA : BxV w.heap.size ⟨5, m, e, t, na, nc, ns⟩ (.slice a F.len c) wp := by subst hwp; exact BxV.new w ⟨5, m, e, t, na, nc, ns⟩ _ _
    have HX : Hid (∀ W, Below wp.heap.size wp W → BxV w.heap.size ⟨5, m, e, t, na, nc, ns⟩ (.slice a n c) W) := fun W hW => by rw [← hn]; exact hA.below hW
    have HI : Hid ((∀ W, Below wp.heap.size wp W → F.In W a ∧ Below w.heap.size w W) ∧ F.allOne) := ⟨fun W hW => ⟨hin.grow (hBp.trans (hW.mono hBp.size)), hBp.trans (hW.mono hBp.size)⟩, hfit.2⟩
    have HW := hideIt hwp
    have hzp := hBp.size
    rw [hn] at hl hll ⊢
    clear hwp hA hBp hin hfit hh HK hn
    go_enter Try.func21, Try.ntmps21
    go_wp2_with fail
    rw [HNl.out] at HW
    rw [← HW.out]
    clear HW
    go_loopw [3, 4] (fun o i wr => ∃ j : Nat, i = .int .i64 j ∧ j ≤ n ∧ o = .string ⟨(jitems [] [] (jtext [] [] N) false [] F [] j).toArray⟩ ∧ Below wp.heap.size wp wr) (fun _ i _ => n - (intOf i).toNat)
    case atStart => exact ⟨0, rfl, Nat.zero_le _, rfl, Below.refl _ _⟩
    case round =>
      obtain ⟨j, rfl, hj, rfl, hb⟩ := hrel
      obtain ⟨x0, x1, x2, x3, x4, x5⟩ := HX.out _ hb
      have hlj := HLn.out j hj
      have hsj := HS.out j hj
      by_cases hjn : j < n
      case neg =>
        have ej : j = n := by omega
        subst ej
        obtain ⟨A, hA⟩ : ∃ A, A = jitems [] [] (jtext [] [] N) false [] F [] j := ⟨_, rfl⟩
        have HT2 : Hid (jtext [] [] (N + 1) ⟨5, m, e, t, na, nc, ns⟩ F [] = [91] ++ (A ++ [93])) := by rw [hA]; exact HT.out
        rw [← hA] at hlj ⊢
        clear hA HT hjn hj
        have hq := arr_size A
        have hbe := (HI.out.1 _ hb).2
        go_wp2_with fail
        go_ret
        exact ⟨by rw [HT2.out]; exact ret_str (by simp [ByteArray.data_append]), hbe⟩
      have hjF : j < F.len := by rw [HNl.out]; exact hjn
      have hjl : (j : Int) < (n : Int) := by omega
      have hs1 := HS.out (j + 1) hjn
      have hs1' : F.sumJ j + ((F.kidsAt j).size + 1) ≤ F.size := hs1
      obtain ⟨b, o', rfl, hFr⟩ := Vo.from_of_len (HI.out.1 _ (Below.refl _ _)).1 hjF
      obtain ⟨⟨c0, c1, c2, c3, c4, c5⟩, ck, ⟨cc1, cc2⟩, ch⟩ := Vo.from_at (Vo.from_grow hb F b o' hFr) hjF
      have HF : Hid (FitJ (F.hdAt j) (F.kidsAt j)) := fitJ_at hjF HI.out.2
      have hklen := jtext_len (step := []) (gap := []) (by simp) (by simp) N (F.hdAt j) (F.kidsAt j) [] (by simp only [List.length_nil]; omega) HF.out
      have HP : Hid (jitems [] [] (jtext [] [] N) false [] F [] (j + 1) = jitems [] [] (jtext [] [] N) false [] F [] j ++ ((if j = 0 then [] else [44]) ++ ((([] : List UInt8) ++ []) ++ ((if false then Qm.jquote (nameAt [] j).data.toList ++ ([58] ++ []) else []) ++ jtext [] [] N (F.hdAt j) (F.kidsAt j) ([] ++ []))))) := rfl
      have HKid : Hid (((F.kidsAt j).In wp (F.addrAt j) ∧ (F.hdAt j).In wp)) := by
        obtain ⟨_, x2, _, x4⟩ := Vo.from_at hFr hjF
        exact ⟨x2, x4⟩
      clear ck ch
      rw [List.append_nil] at HP
      obtain ⟨A, hA⟩ : ∃ A, A = jitems [] [] (jtext [] [] N) false [] F [] j := ⟨_, rfl⟩
      rw [← hA] at hlj HP ⊢
      clear hA HT
      generalize F.hdAt j = xh at *
      generalize F.kidsAt j = xk at *
      generalize F.addrAt j = xa at *
      generalize F.capAt j = xc at *
      have HCk := hideIt (And.intro c0 (And.intro c1 (And.intro c2 (And.intro c3 (And.intro c4 c5)))))
      have hq := arr_size A
      have hqk := arr_size (jtext [] [] N xh xk [])
      by_cases hj0 : j = 0
      · have hj0' : ¬ 0 < j := by omega
        have HJ0 := hideIt hj0
        clear hj0
        go_wp2_with fail
        have hj0 := HJ0.out
        clear HJ0 hj0'
        subst hj0
        have hB1 := hb
        refine (H xh xa xc xk _ (by omega) (by omega) HF.out (HKid.out.1.grow hB1) cc1 cc2 (HKid.out.2.grow hB1)).mono ?_
        rintro r w2 ⟨rfl, hb2⟩
        have hB2 := hB1.trans (hb2.mono hB1.size)
        clear x0 x1 x2 x3 x4 x5 c0 c1 c2 c3 c4 c5
        go_wp2_with fail
        go_round
        case rel =>
          refine ⟨0 + 1, by go_num, by omega, ?_, hB2⟩
          rw [HP.out]
          exact str_eq (by simp [ByteArray.data_append])
        case measure => simp [intOf]; omega
      · have hj0' : 0 < j := by omega
        have HJ0 := hideIt hj0
        clear hj0
        go_wp2_with fail
        have hB1 := hb
        refine (H xh xa xc xk _ (by omega) (by omega) HF.out (HKid.out.1.grow hB1) cc1 cc2 (HKid.out.2.grow hB1)).mono ?_
        rintro r w2 ⟨rfl, hb2⟩
        have hB2 := hB1.trans (hb2.mono hB1.size)
        clear x0 x1 x2 x3 x4 x5 c0 c1 c2 c3 c4 c5
        go_wp2_with fail
        go_round
        case rel =>
          refine ⟨j + 1, by go_num, by omega, ?_, hB2⟩
          rw [HP.out]
          exact str_eq (by simp [ByteArray.data_append, HJ0.out])
        case measure => simp [intOf]; omega
  · clear k0 k6
    have hll := F.len_le
    obtain ⟨n, hn⟩ : ∃ n, F.len = n := ⟨_, rfl⟩
    have HNl := hideIt hn
    have HT : Hid (jtext [] [] (N + 1) ⟨6, m, e, t, na, nc, ns⟩ F [] = [123] ++ (jitems [] [] (jtext [] [] N) true ns F [] n ++ [125])) := by
      unfold Hid jtext jinner
      rw [← hn]
      have : (if F.len = 0 then ([] : List UInt8) else []) = [] := by split <;> rfl
      simp [this]
    have HLn : Hid (∀ j, j ≤ n → (jitems [] [] (jtext [] [] N) true ns F [] j).length ≤ 13000 * F.sumJ j) := by
      unfold Hid
      rw [← hn]
      exact jitems_len (by simp) (by simp) (by simp) (fun i hi => jtext_len (by simp) (by simp) N _ _ _ (by simp only [List.append_nil, List.length_nil]; omega) (fitJ_at hi hfit.2)) true (fun e i => asc_short (HK.out.2.2 rfl).2 i)
    have HS : Hid (∀ j, j ≤ n → F.sumJ j ≤ F.size) := fun j hj => by
      have h1 := sumJ_le F (i := j) (n := F.len) (by omega)
      rw [sumJ_len] at h1
      exact h1
    obtain ⟨wp, hwp⟩ : ∃ wp, wp = w.alloc (.cells #[.int .i64 6, .int .i64 m, .int .i64 e, .string t, .slice a F.len c, .slice na ns.length nc] 33) := ⟨_, rfl⟩
    have hBp : Below w.heap.size w wp := by subst hwp; exact (Below.refl _ w).alloc (Nat.le_refl _) _
    have hA : BxV w.heap.size ⟨6, m, e, t, na, nc, ns⟩ (.slice a F.len c) wp := by subst hwp; exact BxV.new w ⟨6, m, e, t, na, nc, ns⟩ _ _
    have HX : Hid (∀ W, Below wp.heap.size wp W → BxV w.heap.size ⟨6, m, e, t, na, nc, ns⟩ (.slice a n c) W) := fun W hW => by rw [← hn]; exact hA.below hW
    have HI : Hid ((∀ W, Below wp.heap.size wp W → F.In W a ∧ Below w.heap.size w W) ∧ F.allOne) := ⟨fun W hW => ⟨hin.grow (hBp.trans (hW.mono hBp.size)), hBp.trans (hW.mono hBp.size)⟩, hfit.2⟩
    have HNm : Hid ((ns.length = F.len ∧ ∀ i, (nameAt ns i).size ≤ 12) ∧ ∀ W, Below wp.heap.size wp W → SIn W ns na) := ⟨⟨(HK.out.2.2 rfl).1, fun i => asc_short (HK.out.2.2 rfl).2 i⟩, fun W hW => hh.1.grow (hBp.trans (hW.mono hBp.size))⟩
    have HW := hideIt hwp
    have hzp := hBp.size
    rw [hn] at hl hll ⊢
    clear hwp hA hBp hin hfit hh HK hn
    go_enter Try.func21, Try.ntmps21
    go_wp2_with fail
    rw [HNl.out] at HW
    rw [← HW.out]
    clear HW
    go_loopw [3, 4] (fun o i wr => ∃ j : Nat, i = .int .i64 j ∧ j ≤ n ∧ o = .string ⟨(jitems [] [] (jtext [] [] N) true ns F [] j).toArray⟩ ∧ Below wp.heap.size wp wr) (fun _ i _ => n - (intOf i).toNat)
    case atStart => exact ⟨0, rfl, Nat.zero_le _, rfl, Below.refl _ _⟩
    case round =>
      obtain ⟨j, rfl, hj, rfl, hb⟩ := hrel
      obtain ⟨x0, x1, x2, x3, x4, x5⟩ := HX.out _ hb
      have hlj := HLn.out j hj
      have hsj := HS.out j hj
      by_cases hjn : j < n
      case neg =>
        have ej : j = n := by omega
        subst ej
        obtain ⟨A, hA⟩ : ∃ A, A = jitems [] [] (jtext [] [] N) true ns F [] j := ⟨_, rfl⟩
        have HT2 : Hid (jtext [] [] (N + 1) ⟨6, m, e, t, na, nc, ns⟩ F [] = [123] ++ (A ++ [125])) := by rw [hA]; exact HT.out
        rw [← hA] at hlj ⊢
        clear hA HT hjn hj
        have hq := arr_size A
        have hbe := (HI.out.1 _ hb).2
        go_wp2_with fail
        go_ret
        exact ⟨by rw [HT2.out]; exact ret_str (by simp [ByteArray.data_append]), hbe⟩
      have hjF : j < F.len := by rw [HNl.out]; exact hjn
      have hjl : (j : Int) < (n : Int) := by omega
      have hs1 := HS.out (j + 1) hjn
      have hs1' : F.sumJ j + ((F.kidsAt j).size + 1) ≤ F.size := hs1
      obtain ⟨b, o', rfl, hFr⟩ := Vo.from_of_len (HI.out.1 _ (Below.refl _ _)).1 hjF
      obtain ⟨⟨c0, c1, c2, c3, c4, c5⟩, ck, ⟨cc1, cc2⟩, ch⟩ := Vo.from_at (Vo.from_grow hb F b o' hFr) hjF
      have HF : Hid (FitJ (F.hdAt j) (F.kidsAt j)) := fitJ_at hjF HI.out.2
      have hklen := jtext_len (step := []) (gap := []) (by simp) (by simp) N (F.hdAt j) (F.kidsAt j) [] (by simp only [List.length_nil]; omega) HF.out
      have HP : Hid (jitems [] [] (jtext [] [] N) true ns F [] (j + 1) = jitems [] [] (jtext [] [] N) true ns F [] j ++ ((if j = 0 then [] else [44]) ++ ((([] : List UInt8) ++ []) ++ ((if true then Qm.jquote (nameAt ns j).data.toList ++ ([58] ++ []) else []) ++ jtext [] [] N (F.hdAt j) (F.kidsAt j) ([] ++ []))))) := rfl
      have HKid : Hid (((F.kidsAt j).In wp (F.addrAt j) ∧ (F.hdAt j).In wp)) := by
        obtain ⟨_, x2, _, x4⟩ := Vo.from_at hFr hjF
        exact ⟨x2, x4⟩
      clear ck ch
      rw [List.append_nil] at HP
      obtain ⟨A, hA⟩ : ∃ A, A = jitems [] [] (jtext [] [] N) true ns F [] j := ⟨_, rfl⟩
      rw [← hA] at hlj HP ⊢
      clear hA HT
      generalize F.hdAt j = xh at *
      generalize F.kidsAt j = xk at *
      generalize F.addrAt j = xa at *
      generalize F.capAt j = xc at *
      have HCk := hideIt (And.intro c0 (And.intro c1 (And.intro c2 (And.intro c3 (And.intro c4 c5)))))
      have hq := arr_size A
      have hcl := HNm.out.1.2 j
      have hqn := arr_size (Qm.jquote (nameAt ns j).data.toList)
      have hql := Qm.jquote_length (nameAt ns j).data.toList
      rw [Qm.len_eq] at hql
      have hsn := nameAt_some (ns := ns) (i := j) (by rw [HNm.out.1.1]; exact hjF)
      obtain ⟨nb, no, e1, e3⟩ : ∃ nb no, na = some ⟨nb, no, none⟩ ∧ wr.cell? ⟨nb, no + j, none⟩ = some (.string (nameAt ns j)) := by
        rcases HNm.out.2 _ hb with e | ⟨nb, no, e, hS⟩
        · rw [e] at hsn; simp at hsn
        · exact ⟨nb, no, e, (hS.at hsn).1⟩
      subst e1
      have hjn2 : (j : Int) < (ns.length : Int) := by rw [HNm.out.1.1, HNl.out]; exact hjl
      clear hsn
      have hqk := arr_size (jtext [] [] N xh xk [])
      by_cases hj0 : j = 0
      · have hj0' : ¬ 0 < j := by omega
        have HJ0 := hideIt hj0
        clear hj0
        go_wp2_with fail
        have hj0 := HJ0.out
        clear HJ0 hj0'
        subst hj0
        refine (l7Quote_any _ _ (by omega)).mono ?_
        rintro r w1 ⟨rfl, hb1⟩
        have hB1 := hb.trans (hb1.mono hb.size)
        clear x0 x1 x2 x3 x4 x5 c0 c1 c2 c3 c4 c5 e3
        obtain ⟨x0, x1, x2, x3, x4, x5⟩ := HX.out _ hB1
        obtain ⟨c0, c1, c2, c3, c4, c5⟩ : Cells6 w1 b (o') xh (.slice xa xk.len xc) := (show Cells6 wr b (o') xh (.slice xa xk.len xc) from HCk.out).grow hb1
        go_wp2_with fail
        refine (H xh xa xc xk _ (by omega) (by omega) HF.out (HKid.out.1.grow hB1) cc1 cc2 (HKid.out.2.grow hB1)).mono ?_
        rintro r w2 ⟨rfl, hb2⟩
        have hB2 := hB1.trans (hb2.mono hB1.size)
        clear x0 x1 x2 x3 x4 x5 c0 c1 c2 c3 c4 c5
        go_wp2_with fail
        go_round
        case rel =>
          refine ⟨0 + 1, by go_num, by omega, ?_, hB2⟩
          rw [HP.out]
          exact str_eq (by simp [ByteArray.data_append])
        case measure => simp [intOf]; omega
      · have hj0' : 0 < j := by omega
        have HJ0 := hideIt hj0
        clear hj0
        go_wp2_with fail
        refine (l7Quote_any _ _ (by omega)).mono ?_
        rintro r w1 ⟨rfl, hb1⟩
        have hB1 := hb.trans (hb1.mono hb.size)
        clear x0 x1 x2 x3 x4 x5 c0 c1 c2 c3 c4 c5 e3
        obtain ⟨x0, x1, x2, x3, x4, x5⟩ := HX.out _ hB1
        obtain ⟨c0, c1, c2, c3, c4, c5⟩ : Cells6 w1 b (o' + j * 6) xh (.slice xa xk.len xc) := (show Cells6 wr b (o' + j * 6) xh (.slice xa xk.len xc) from HCk.out).grow hb1
        go_wp2_with fail
        refine (H xh xa xc xk _ (by omega) (by omega) HF.out (HKid.out.1.grow hB1) cc1 cc2 (HKid.out.2.grow hB1)).mono ?_
        rintro r w2 ⟨rfl, hb2⟩
        have hB2 := hB1.trans (hb2.mono hB1.size)
        clear x0 x1 x2 x3 x4 x5 c0 c1 c2 c3 c4 c5
        go_wp2_with fail
        go_round
        case rel =>
          refine ⟨j + 1, by go_num, by omega, ?_, hB2⟩
          rw [HP.out]
          exact str_eq (by simp [ByteArray.data_append, HJ0.out])
        case measure => simp [intOf]; omega
theorem l7Put_all (N : Nat) : SPut N := by
  induction N with
  | zero => intro h a c F w hF; omega
  | succ N ih => exact l7Put_step N ih
end Go.Proofs.Ytpgpkdeiapeoiaa
/- Values as lines, by the specification: the region of l12Toml that draws. -/
namespace Go.Proofs.Ytpgpkdeiapeoiaa
open Go.RowKit
set_option maxRecDepth 100000 in
set_option maxHeartbeats 1000000 in
theorem tm6 {Q : Exit → Act → World → Prop} {t0 t1 t3 t4 t7 t8 t9 t10 t11 t12 t13 t14 t15 t16 t17 t18 t19 t20 t21 t22 t23 t24 t25 t26 t27 t28 t29 t30 t31 t32 t33 t34 t35 t36 t37 t38 t39 t40 t41 t42 t43 t44 t45 t46 t47 t48 t49 t50 t51 t52 t53 t54 t55 t56 t57 t58 t59 t60 t61 t62 t63 t64 t65 t66 t67 t68 t69 t70 t71 t72 t73 t74 : Value} {W : World} {vb b o' nb no j n c : Nat} {h xh : Hd} {xa : Option Addr} {xk : Vo} {xc : Nat} {out nm tx : ByteArray}
    (hA : BxV vb h (.slice (some ⟨b, o', none⟩) n c) W) (hC : Cells6 W b (o' + j * 6) xh (.slice xa xk.len xc)) (hN : W.cell? ⟨nb, no + j, none⟩ = some (.string nm)) (hna : h.na = some ⟨nb, no, none⟩) (hjn : (j : Int) < (n : Int)) (hjm : (j : Int) < (h.ns.length : Int)) (hz : out.size + nm.size + tx.size + 4 ≤ 100000000) (hcall : ∀ W', Below W.heap.size W W' → Calls Try.prog 21 #[valV xh xa xk.len xc] W' fun r w' => r = .returned (.string tx) ∧ Below W'.heap.size W' w')
    (hp : ∀ p d v a w, Q (.panic p) (Act.put a d v) w → Q (.panic p) a w) (h_ : ∀ ws v23 v24 v25 v26 v27 v28 v29 v30 v31 v32 v33 v34 v35 v36 v37 v38, Below W.heap.size W ws → Q .normal { tmps := (t0 :: t1 :: (.pointer (some ⟨vb, 0, none⟩)) :: t3 :: t4 :: (.string (out ++ nm ++ ⟨#[32, 61, 32]⟩ ++ tx ++ ⟨#[10]⟩)) :: (.int .i64 (j : Int)) :: t7 :: t8 :: t9 :: t10 :: t11 :: t12 :: t13 :: t14 :: t15 :: t16 :: t17 :: t18 :: t19 :: t20 :: t21 :: t22 :: v23 :: v24 :: v25 :: v26 :: v27 :: v28 :: v29 :: v30 :: v31 :: v32 :: v33 :: v34 :: v35 :: v36 :: v37 :: v38 :: t39 :: t40 :: t41 :: t42 :: t43 :: t44 :: t45 :: t46 :: t47 :: t48 :: t49 :: t50 :: t51 :: t52 :: t53 :: t54 :: t55 :: t56 :: t57 :: t58 :: t59 :: t60 :: t61 :: t62 :: t63 :: t64 :: t65 :: t66 :: t67 :: t68 :: t69 :: t70 :: t71 :: t72 :: t73 :: t74 :: []).toArray, defers := [] } ws) :
    Code.wp Try.prog (Code.region 6 #[{ dst := some 23, op := Op.move (Operand.tmp 5), type := 9, pos := "l12_out.go:66", after := #[], guard := none }, { dst := some 24, op := Op.fieldAddr 33 (Operand.tmp 2) 4, type := 0, pos := "l12_out.go:66", after := #[], guard := none }, { dst := some 25, op := Op.load 25 (Operand.tmp 24), type := 25, pos := "l12_out.go:66", after := #[{ on := 1, ground := Ground.data }], guard := none }, { dst := some 26, op := Op.move (Operand.tmp 6), type := 3, pos := "l12_out.go:66", after := #[], guard := none }, { dst := some 27, op := Op.indexAddr 25 (Operand.tmp 25) (Operand.tmp 26), type := 0, pos := "l12_out.go:66", after := #[{ on := 2, ground := Ground.data }, { on := 3, ground := Ground.data }], guard := none }, { dst := some 28, op := Op.load 9 (Operand.tmp 27), type := 9, pos := "l12_out.go:66", after := #[{ on := 4, ground := Ground.data }], guard := none }, { dst := some 29, op := Op.binOp BinOp.add 9 (Operand.tmp 23) (Operand.tmp 28) 9, type := 9, pos := "l12_out.go:66", after := #[{ on := 0, ground := Ground.data }, { on := 5, ground := Ground.data }], guard := none }, { dst := some 30, op := Op.binOp BinOp.add 9 (Operand.tmp 29) (Operand.const (Value.string { data := #[32, 61, 32] })) 9, type := 9, pos := "l12_out.go:66", after := #[{ on := 6, ground := Ground.data }], guard := none }, { dst := some 31, op := Op.fieldAddr 33 (Operand.tmp 2) 3, type := 0, pos := "l12_out.go:66", after := #[], guard := none }, { dst := some 32, op := Op.load 31 (Operand.tmp 31), type := 31, pos := "l12_out.go:66", after := #[{ on := 8, ground := Ground.data }], guard := none }, { dst := some 33, op := Op.move (Operand.tmp 6), type := 3, pos := "l12_out.go:66", after := #[], guard := none }, { dst := some 34, op := Op.indexAddr 31 (Operand.tmp 32) (Operand.tmp 33), type := 0, pos := "l12_out.go:66", after := #[{ on := 9, ground := Ground.data }, { on := 10, ground := Ground.data }], guard := none }, { dst := some 35, op := Op.load 33 (Operand.tmp 34), type := 33, pos := "l12_out.go:66", after := #[{ on := 11, ground := Ground.data }], guard := none }, { dst := some 36, op := Op.call { callee := Callee.value (Operand.func 21), args := #[Operand.tmp 35], argTypes := #[33] }, type := 9, pos := "l12_out.go:66", after := #[{ on := 12, ground := Ground.data }], guard := none }, { dst := some 37, op := Op.binOp BinOp.add 9 (Operand.tmp 30) (Operand.tmp 36) 9, type := 9, pos := "l12_out.go:66", after := #[{ on := 7, ground := Ground.data }, { on := 13, ground := Ground.data }], guard := none }, { dst := some 38, op := Op.binOp BinOp.add 9 (Operand.tmp 37) (Operand.const (Value.string { data := #[10] })) 9, type := 9, pos := "l12_out.go:66", after := #[{ on := 14, ground := Ground.data }], guard := none }, { dst := some 5, op := Op.assign (Operand.tmp 38), type := 9, pos := "l12_out.go:66", after := #[{ on := 15, ground := Ground.data }, { on := 13, ground := Ground.chain }, { on := 0, ground := Ground.phase }, { on := 1, ground := Ground.phase }, { on := 2, ground := Ground.phase }, { on := 3, ground := Ground.phase }, { on := 4, ground := Ground.phase }, { on := 5, ground := Ground.phase }, { on := 6, ground := Ground.phase }, { on := 7, ground := Ground.phase }, { on := 8, ground := Ground.phase }, { on := 9, ground := Ground.phase }, { on := 10, ground := Ground.phase }, { on := 11, ground := Ground.phase }, { on := 12, ground := Ground.phase }, { on := 13, ground := Ground.phase }, { on := 14, ground := Ground.phase }, { on := 15, ground := Ground.phase }], guard := none }] true) Q { tmps := (t0 :: t1 :: (.pointer (some ⟨vb, 0, none⟩)) :: t3 :: t4 :: (.string out) :: (.int .i64 (j : Int)) :: t7 :: t8 :: t9 :: t10 :: t11 :: t12 :: t13 :: t14 :: t15 :: t16 :: t17 :: t18 :: t19 :: t20 :: t21 :: t22 :: t23 :: t24 :: t25 :: t26 :: t27 :: t28 :: t29 :: t30 :: t31 :: t32 :: t33 :: t34 :: t35 :: t36 :: t37 :: t38 :: t39 :: t40 :: t41 :: t42 :: t43 :: t44 :: t45 :: t46 :: t47 :: t48 :: t49 :: t50 :: t51 :: t52 :: t53 :: t54 :: t55 :: t56 :: t57 :: t58 :: t59 :: t60 :: t61 :: t62 :: t63 :: t64 :: t65 :: t66 :: t67 :: t68 :: t69 :: t70 :: t71 :: t72 :: t73 :: t74 :: []).toArray, defers := [] } W := by
  have HSof : Hid (∀ w', Below W.heap.size W w' → (BxV vb h (.slice (some ⟨b, o', none⟩) n c) w' ∧ Cells6 w' b (o' + j * 6) xh (.slice xa xk.len xc)) ∧ w'.cell? ⟨nb, no + j, none⟩ = some (.string nm)) := fun w' h => ⟨⟨hA.below h, hC.grow h⟩, (h.cell (World.block_lt_of_cell? W _ hN)).trans hN⟩
  have hB0 := (Below.refl W.heap.size W).drew
  have hS0 := HSof.out _ hB0
  obtain ⟨hk, hm, he, ht, hna', hnc, hns⟩ := h
  dsimp only at hna hjm
  subst hna
  clear hA hC hN
  refine wp_region_held_drew (S := fun w' => (BxV vb ⟨hk, hm, he, ht, some ⟨nb, no, none⟩, hnc, hns⟩ (.slice (some ⟨b, o', none⟩) n c) w' ∧ Cells6 w' b (o' + j * 6) xh (.slice xa xk.len xc)) ∧ w'.cell? ⟨nb, no + j, none⟩ = some (.string nm)) (by kernel_rfl) hS0 (fun hHeld => ?_)
  refine wpAnyH_take (i := 0) (v := .string out) rfl (by kernel_rfl) (by kernel_rfl) (by kernel_rfl) (fun _ _ _ h => hp _ _ _ _ _ h) (Or.inl ⟨by rfl, ?_⟩) (by assumption) ?_
  · intro w hSw
    (try dsimp only at hSw)
    go_simp
  (try simp only [Act.put, List.getElem_toArray, List.getElem_cons_zero, List.setIfInBounds_toArray, List.set_cons_zero, List.set_cons_succ])
  refine wpAnyH_take (i := 1) (v := .pointer (some ⟨vb, 5, none⟩)) rfl (by kernel_rfl) (by kernel_rfl) (by kernel_rfl) (fun _ _ _ h => hp _ _ _ _ _ h) (Or.inl ⟨by rfl, ?_⟩) (by assumption) ?_
  · intro w hSw
    (try dsimp only at hSw)
    go_simp
  (try simp only [Act.put, List.getElem_toArray, List.getElem_cons_zero, List.getElem_cons_succ, List.setIfInBounds_toArray, List.set_cons_zero, List.set_cons_succ])
  refine wpAnyH_take (i := 2) (v := .slice (some ⟨nb, no, none⟩) hns.length hnc) rfl (by kernel_rfl) (by kernel_rfl) (by kernel_rfl) (fun _ _ _ h => hp _ _ _ _ _ h) (Or.inl ⟨by rfl, ?_⟩) (by assumption) ?_
  · intro w hSw
    (try dsimp only at hSw)
    go_simp
  (try simp only [Act.put, List.getElem_toArray, List.getElem_cons_zero, List.getElem_cons_succ, List.setIfInBounds_toArray, List.set_cons_zero, List.set_cons_succ])
  refine wpAnyH_take (i := 3) (v := .int .i64 (j : Int)) rfl (by kernel_rfl) (by kernel_rfl) (by kernel_rfl) (fun _ _ _ h => hp _ _ _ _ _ h) (Or.inl ⟨by rfl, ?_⟩) (by assumption) ?_
  · intro w hSw
    (try dsimp only at hSw)
    go_simp
  (try simp only [Act.put, List.getElem_toArray, List.getElem_cons_zero, List.getElem_cons_succ, List.setIfInBounds_toArray, List.set_cons_zero, List.set_cons_succ])
  refine wpAnyH_take (i := 4) (v := .pointer (some ⟨nb, no + j, none⟩)) rfl (by kernel_rfl) (by kernel_rfl) (by kernel_rfl) (fun _ _ _ h => hp _ _ _ _ _ h) (Or.inl ⟨by rfl, ?_⟩) (by assumption) ?_
  · intro w hSw
    (try dsimp only at hSw)
    go_simp
  (try simp only [Act.put, List.getElem_toArray, List.getElem_cons_zero, List.getElem_cons_succ, List.setIfInBounds_toArray, List.set_cons_zero, List.set_cons_succ])
  refine wpAnyH_take (i := 5) (v := .string nm) rfl (by kernel_rfl) (by kernel_rfl) (by kernel_rfl) (fun _ _ _ h => hp _ _ _ _ _ h) (Or.inl ⟨by rfl, ?_⟩) (by assumption) ?_
  · intro w hSw
    (try dsimp only at hSw)
    go_simp
  (try simp only [Act.put, List.getElem_toArray, List.getElem_cons_zero, List.getElem_cons_succ, List.setIfInBounds_toArray, List.set_cons_zero, List.set_cons_succ])
  refine wpAnyH_take (i := 6) (v := .string (out ++ nm)) rfl (by kernel_rfl) (by kernel_rfl) (by kernel_rfl) (fun _ _ _ h => hp _ _ _ _ _ h) (Or.inl ⟨by rfl, ?_⟩) (by assumption) ?_
  · intro w hSw
    (try dsimp only at hSw)
    (go_simp; omega)
  (try simp only [Act.put, List.getElem_toArray, List.getElem_cons_zero, List.getElem_cons_succ, List.setIfInBounds_toArray, List.set_cons_zero, List.set_cons_succ])
  refine wpAnyH_take (i := 7) (v := .string (out ++ nm ++ ⟨#[32, 61, 32]⟩)) rfl (by kernel_rfl) (by kernel_rfl) (by kernel_rfl) (fun _ _ _ h => hp _ _ _ _ _ h) (Or.inl ⟨by rfl, ?_⟩) (by assumption) ?_
  · intro w hSw
    (try dsimp only at hSw)
    (go_simp; omega)
  (try simp only [Act.put, List.getElem_toArray, List.getElem_cons_zero, List.getElem_cons_succ, List.setIfInBounds_toArray, List.set_cons_zero, List.set_cons_succ])
  refine wpAnyH_take (i := 8) (v := .pointer (some ⟨vb, 4, none⟩)) rfl (by kernel_rfl) (by kernel_rfl) (by kernel_rfl) (fun _ _ _ h => hp _ _ _ _ _ h) (Or.inl ⟨by rfl, ?_⟩) (by assumption) ?_
  · intro w hSw
    (try dsimp only at hSw)
    go_simp
  (try simp only [Act.put, List.getElem_toArray, List.getElem_cons_zero, List.getElem_cons_succ, List.setIfInBounds_toArray, List.set_cons_zero, List.set_cons_succ])
  refine wpAnyH_take (i := 9) (v := .slice (some ⟨b, o', none⟩) n c) rfl (by kernel_rfl) (by kernel_rfl) (by kernel_rfl) (fun _ _ _ h => hp _ _ _ _ _ h) (Or.inl ⟨by rfl, ?_⟩) (by assumption) ?_
  · intro w hSw
    (try dsimp only at hSw)
    go_simp
  (try simp only [Act.put, List.getElem_toArray, List.getElem_cons_zero, List.getElem_cons_succ, List.setIfInBounds_toArray, List.set_cons_zero, List.set_cons_succ])
  refine wpAnyH_take (i := 10) (v := .int .i64 (j : Int)) rfl (by kernel_rfl) (by kernel_rfl) (by kernel_rfl) (fun _ _ _ h => hp _ _ _ _ _ h) (Or.inl ⟨by rfl, ?_⟩) (by assumption) ?_
  · intro w hSw
    (try dsimp only at hSw)
    go_simp
  (try simp only [Act.put, List.getElem_toArray, List.getElem_cons_zero, List.getElem_cons_succ, List.setIfInBounds_toArray, List.set_cons_zero, List.set_cons_succ])
  refine wpAnyH_take (i := 11) (v := .pointer (some ⟨b, o' + j * 6, none⟩)) rfl (by kernel_rfl) (by kernel_rfl) (by kernel_rfl) (fun _ _ _ h => hp _ _ _ _ _ h) (Or.inl ⟨by rfl, ?_⟩) (by assumption) ?_
  · intro w hSw
    (try dsimp only at hSw)
    go_simp
  (try simp only [Act.put, List.getElem_toArray, List.getElem_cons_zero, List.getElem_cons_succ, List.setIfInBounds_toArray, List.set_cons_zero, List.set_cons_succ])
  refine wpAnyH_take (i := 12) (v := .agg #[.int .i64 xh.k, .int .i64 xh.m, .int .i64 xh.e, .string xh.t, .slice xa xk.len xc, .slice xh.na xh.ns.length xh.nc]) rfl (by kernel_rfl) (by kernel_rfl) (by kernel_rfl) (fun _ _ _ h => hp _ _ _ _ _ h) (Or.inl ⟨by rfl, ?_⟩) (by assumption) ?_
  · intro w hSw
    (try dsimp only at hSw)
    (obtain ⟨⟨_, c0, c1, c2, c3, c4, c5⟩, _⟩ := hSw; go_simp)
  (try simp only [Act.put, List.getElem_toArray, List.getElem_cons_zero, List.getElem_cons_succ, List.setIfInBounds_toArray, List.set_cons_zero, List.set_cons_succ])
  refine wpAnyH_ready (rs := [13]) (by kernel_rfl) (by simp) ?_
  refine AllReadyH.cons rfl (fun K hK => ?_) AllReadyH.nil
  go_simp
  refine (hcall _ hB0).mono ?_
  rintro r w1 ⟨rfl, hb1⟩
  have hB1 := hB0.trans (hb1.mono hB0.size)
  go_wp2_with fail
  refine hK.out _ _ (HSof.out _ hB1) (fun hHeld => ?_)
  clear hK K hb1 hB0
  refine wpAnyH_take (i := 14) (v := .string (out ++ nm ++ ⟨#[32, 61, 32]⟩ ++ tx)) rfl (by kernel_rfl) (by kernel_rfl) (by kernel_rfl) (fun _ _ _ h => hp _ _ _ _ _ h) (Or.inl ⟨by rfl, ?_⟩) (by assumption) ?_
  · intro w hSw
    (try dsimp only at hSw)
    (go_simp; omega)
  (try simp only [Act.put, List.getElem_toArray, List.getElem_cons_zero, List.getElem_cons_succ, List.setIfInBounds_toArray, List.set_cons_zero, List.set_cons_succ])
  refine wpAnyH_take (i := 15) (v := .string (out ++ nm ++ ⟨#[32, 61, 32]⟩ ++ tx ++ ⟨#[10]⟩)) rfl (by kernel_rfl) (by kernel_rfl) (by kernel_rfl) (fun _ _ _ h => hp _ _ _ _ _ h) (Or.inl ⟨by rfl, ?_⟩) (by assumption) ?_
  · intro w hSw
    (try dsimp only at hSw)
    (go_simp; omega)
  (try simp only [Act.put, List.getElem_toArray, List.getElem_cons_zero, List.getElem_cons_succ, List.setIfInBounds_toArray, List.set_cons_zero, List.set_cons_succ])
  refine wpAnyH_take (i := 16) (v := .string (out ++ nm ++ ⟨#[32, 61, 32]⟩ ++ tx ++ ⟨#[10]⟩)) rfl (by kernel_rfl) (by kernel_rfl) (by kernel_rfl) (fun _ _ _ h => hp _ _ _ _ _ h) (Or.inl ⟨by rfl, ?_⟩) (by assumption) ?_
  · intro w hSw
    (try dsimp only at hSw)
    go_simp
  (try simp only [Act.put, List.getElem_toArray, List.getElem_cons_zero, List.getElem_cons_succ, List.setIfInBounds_toArray, List.set_cons_zero, List.set_cons_succ])
  refine wpAnyH_done (by kernel_rfl) ?_ _
  exact h_ _ _ _ _ _ _ _ _ _ _ _ _ _ _ _ _ _ hB1
end Go.Proofs.Ytpgpkdeiapeoiaa
/- Values as lines, by the specification: l12Toml. -/
namespace Go.Proofs.Ytpgpkdeiapeoiaa
open Go.RowKit
def STom (N : Nat) : Prop := ∀ (h : Hd) (a : Option Addr) (c : Nat) (F : Vo) (path : ByteArray) (w : World), F.size < N → N ≤ 200 → path.size + 13 * N ≤ 3000 → h.k = 6 → FitJ h F → F.In w a → F.len ≤ c → c ≤ maxLen → h.In w →
  Calls Try.prog 34 #[valV h a F.len c, .string path] w fun r w' => r = .returned (.string ⟨(ttext N h F path.data.toList).toArray⟩) ∧ Below w.heap.size w w'
set_option linter.unusedSimpArgs false in
set_option maxRecDepth 100000 in
set_option maxHeartbeats 2000000 in
theorem l12Toml_step (N : Nat) (H : STom N) : STom (N + 1) := by
  intro h a c F path w hF hN hpl hk hfit hin hl hc hh
  obtain ⟨k, m, e, t, na, nc, ns⟩ := h
  dsimp only at hk
  subst hk
  have hone := oneJ hfit.1
  dsimp only at hone
  obtain ⟨-, -, -, k66, -⟩ := hone
  have HK := hideIt (k66 rfl)
  clear k66
  have hll := F.len_le
  have hpz : path.data.toList.length = path.size := by rw [Array.length_toList]; rfl
  obtain ⟨n, hn⟩ : ∃ n, F.len = n := ⟨_, rfl⟩
  have HNl := hideIt hn
  have HT : Hid (ttext (N + 1) ⟨6, m, e, t, na, nc, ns⟩ F path.data.toList = tlines ns F n ++ theads (ttext N) ns F path.data.toList n) := by
    show tlines ns F F.len ++ theads (ttext N) ns F path.data.toList F.len = _
    rw [hn]
  have HCh : Hid (∀ i, i < F.len → (F.hdAt i).k = 6 → (ttext N (F.hdAt i) (F.kidsAt i) ((path.data.toList ++ (nameAt ns i).data.toList) ++ [46])).length ≤ 30000 * (F.kidsAt i).size) := fun i hi hk' => ttext_len N _ _ _ (by
    have h3 := asc_short HK.out.2 i
    have h4 : (nameAt ns i).data.toList.length = (nameAt ns i).size := by rw [Array.length_toList]; rfl
    simp only [List.length_append, List.length_cons, List.length_nil]
    omega) hk' (fitJ_at hi hfit.2)
  have HLn : Hid (∀ j, j ≤ n → (tlines ns F j).length + (theads (ttext N) ns F path.data.toList j).length ≤ 30000 * F.sumJ j) := by
    unfold Hid
    rw [← hn]
    exact tsum_len (by omega) (fun i => asc_short HK.out.2 i) hfit.2 HCh.out
  have HS : Hid (∀ j, j ≤ n → F.sumJ j ≤ F.size) := fun j hj => by
    have h1 := sumJ_le F (i := j) (n := F.len) (by omega)
    rw [sumJ_len] at h1
    exact h1
  obtain ⟨wp, hwp⟩ : ∃ wp, wp = w.alloc (.cells #[.int .i64 6, .int .i64 m, .int .i64 e, .string t, .slice a F.len c, .slice na ns.length nc] 33) := ⟨_, rfl⟩
  have hBp : Below w.heap.size w wp := by subst hwp; exact (Below.refl _ w).alloc (Nat.le_refl _) _
  have hA : BxV w.heap.size ⟨6, m, e, t, na, nc, ns⟩ (.slice a F.len c) wp := by subst hwp; exact BxV.new w ⟨6, m, e, t, na, nc, ns⟩ _ _
  have HX : Hid (∀ W, Below wp.heap.size wp W → BxV w.heap.size ⟨6, m, e, t, na, nc, ns⟩ (.slice a n c) W) := fun W hW => by rw [← hn]; exact hA.below hW
  have HI : Hid ((∀ W, Below wp.heap.size wp W → F.In W a ∧ Below w.heap.size w W) ∧ F.allOne) := ⟨fun W hW => ⟨hin.grow (hBp.trans (hW.mono hBp.size)), hBp.trans (hW.mono hBp.size)⟩, hfit.2⟩
  have HNm : Hid ((ns.length = F.len ∧ ∀ i, (nameAt ns i).size ≤ 12) ∧ ∀ W, Below wp.heap.size wp W → SIn W ns na) := ⟨⟨HK.out.1, fun i => asc_short HK.out.2 i⟩, fun W hW => hh.1.grow (hBp.trans (hW.mono hBp.size))⟩
  have HW := hideIt hwp
  have hzp := hBp.size
  rw [hn] at hl hll ⊢
  clear hwp hA hBp hin hfit hh HK hn hpz
  go_enter Try.func34, Try.ntmps34
  go_wp2_with fail
  rw [HNl.out] at HW
  rw [← HW.out]
  clear HW
  go_loopw [5, 6] (fun o i wr => ∃ j : Nat, i = .int .i64 j ∧ j ≤ n ∧ o = .string ⟨(tlines ns F j).toArray⟩ ∧ Below wp.heap.size wp wr) (fun _ i _ => n - (intOf i).toNat)
  case atStart => exact ⟨0, rfl, Nat.zero_le _, rfl, Below.refl _ _⟩
  case round =>
    obtain ⟨j, rfl, hj, rfl, hb⟩ := hrel
    obtain ⟨x0, x1, x2, x3, x4, x5⟩ := HX.out _ hb
    have hlj := HLn.out j hj
    have hsj := HS.out j hj
    by_cases hjn : j < n
    case neg =>
      have ej : j = n := by omega
      subst ej
      obtain ⟨L, hL⟩ : ∃ L, L = tlines ns F j := ⟨_, rfl⟩
      have HL0 := hideIt hL
      rw [← hL] at hlj ⊢
      clear hL hjn hj
      have hLl : L.length ≤ 30000 * F.sumJ j := by omega
      clear hlj
      have hqL := arr_size L
      go_wp2_with fail
      go_loopw [5, 7] (fun o i wr => ∃ j' : Nat, i = .int .i64 j' ∧ j' ≤ j ∧ o = .string ⟨(L ++ theads (ttext N) ns F path.data.toList j').toArray⟩ ∧ Below wp.heap.size wp wr) (fun _ i _ => j - (intOf i).toNat)
      case atStart => exact ⟨0, rfl, Nat.zero_le _, by simp [theads], hb⟩
      case round =>
        clear x0 x1 x2 x3 x4 x5 hb
        obtain ⟨j', rfl, hj, rfl, hb⟩ := hrel
        obtain ⟨x0, x1, x2, x3, x4, x5⟩ := HX.out _ hb
        have hlj := HLn.out j' hj
        have hsj' := HS.out j' hj
        by_cases hjn : j' < j
        case neg =>
          have ej : j' = j := by omega
          subst ej
          obtain ⟨A, hA⟩ : ∃ A, A = L ++ theads (ttext N) ns F path.data.toList j' := ⟨_, rfl⟩
          have HT2 : Hid (ttext (N + 1) ⟨6, m, e, t, na, nc, ns⟩ F path.data.toList = A) := by rw [hA, HL0.out]; exact HT.out
          rw [← hA]
          clear hA HT hjn hj
          have hbe := (HI.out.1 _ hb).2
          go_wp2_with fail
          go_ret
          exact ⟨by rw [HT2.out]; exact ret_str rfl, hbe⟩
        have hjF : j' < F.len := by rw [HNl.out]; exact hjn
        have hjl : (j' : Int) < (j : Int) := by omega
        have hs1 := HS.out (j' + 1) hjn
        have hs1' : F.sumJ j' + ((F.kidsAt j').size + 1) ≤ F.size := hs1
        obtain ⟨b, o', rfl, hFr⟩ := Vo.from_of_len (HI.out.1 _ (Below.refl _ _)).1 hjF
        obtain ⟨⟨c0, c1, c2, c3, c4, c5⟩, ck, ⟨cc1, cc2⟩, ch⟩ := Vo.from_at (Vo.from_grow hb F b o' hFr) hjF
        have HF : Hid (FitJ (F.hdAt j') (F.kidsAt j')) := fitJ_at hjF HI.out.2
        have HKid : Hid (((F.kidsAt j').In wp (F.addrAt j') ∧ (F.hdAt j').In wp)) := by
          obtain ⟨_, x2, _, x4⟩ := Vo.from_at hFr hjF
          exact ⟨x2, x4⟩
        have HCl : Hid ((F.hdAt j').k = 6 → (ttext N (F.hdAt j') (F.kidsAt j') ((path.data.toList ++ (nameAt ns j').data.toList) ++ [46])).length ≤ 30000 * (F.kidsAt j').size) := HCh.out j' hjF
        clear ck ch
        have HP : Hid (theads (ttext N) ns F path.data.toList (j' + 1) = theads (ttext N) ns F path.data.toList j' ++ (if (F.hdAt j').k = 6 then [91] ++ ((path.data.toList ++ (nameAt ns j').data.toList) ++ ([93, 10] ++ ttext N (F.hdAt j') (F.kidsAt j') ((path.data.toList ++ (nameAt ns j').data.toList) ++ [46]))) else [])) := rfl
        obtain ⟨A, hA⟩ : ∃ A, A = theads (ttext N) ns F path.data.toList j' := ⟨_, rfl⟩
        rw [← hA] at hlj HP ⊢
        clear hA HT
        generalize F.hdAt j' = xh at *
        generalize F.kidsAt j' = xk at *
        generalize F.addrAt j' = xa at *
        generalize F.capAt j' = xc at *
        have hq := arr_size (L ++ A)
        rw [List.length_append] at hq
        have hcl := HNm.out.1.2 j'
        have hsn := nameAt_some (ns := ns) (i := j') (by rw [HNm.out.1.1]; exact hjF)
        obtain ⟨nb, no, e1, e3⟩ : ∃ nb no, na = some ⟨nb, no, none⟩ ∧ wr.cell? ⟨nb, no + j', none⟩ = some (.string (nameAt ns j')) := by
          rcases HNm.out.2 _ hb with e | ⟨nb, no, e, hS⟩
          · rw [e] at hsn; simp at hsn
          · exact ⟨nb, no, e, (hS.at hsn).1⟩
        subst e1
        have hjn2 : (j' : Int) < (ns.length : Int) := by rw [HNm.out.1.1, HNl.out]; exact hjl
        clear hsn
        by_cases hk : xh.k = 6
        · have hk' : (xh.k == 6) = true := by simp [hk]
          have HKk := hideIt hk
          have hcl2 := HCl.out hk
          clear hk
          obtain ⟨nm, hnm⟩ : ∃ nm, nameAt ns j' = nm := ⟨_, rfl⟩
          rw [hnm] at hcl hcl2 e3 HP
          clear hnm
          have hnl : nm.data.toList.length = nm.size := by rw [Array.length_toList]; rfl
          obtain ⟨p2, hp2⟩ : ∃ p2 : ByteArray, path ++ nm ++ (⟨#[46]⟩ : ByteArray) = p2 := ⟨_, rfl⟩
          have hp3 : p2.size = path.size + nm.size + 1 := by rw [← hp2]; simp [ByteArray.size_append]; rfl
          have hp4 : (path.data.toList ++ nm.data.toList) ++ [46] = p2.data.toList := by rw [← hp2]; simp [ByteArray.data_append]
          have HP2 := hideIt (And.intro hp2 hp4)
          rw [hp4] at hcl2 HP
          clear hp2 hp4
          have hq2 := arr_size (ttext N xh xk p2.data.toList)
          go_wp2_with fail
          rw [HP2.out.1]
          refine (H xh xa xc xk p2 _ (by omega) (by omega) (by omega) HKk.out HF.out (HKid.out.1.grow hb) cc1 cc2 (HKid.out.2.grow hb)).mono ?_
          rintro r w2 ⟨rfl, hb2⟩
          have hB2 := hb.trans (hb2.mono hb.size)
          clear x0 x1 x2 x3 x4 x5 c0 c1 c2 c3 c4 c5 e3
          go_wp2_with fail
          go_round
          case rel =>
            refine ⟨j' + 1, by go_num, by omega, ?_, hB2⟩
            rw [HP.out, if_pos HKk.out]
            exact str_eq (by simp [ByteArray.data_append])
          case measure => simp [intOf]; omega
        · have hk' : (xh.k == 6) = false := by simp [hk]
          have HKk := hideIt hk
          clear hk
          go_wp2_with fail
          go_round
          case rel =>
            refine ⟨j' + 1, by go_num, by omega, ?_, hb⟩
            rw [HP.out, if_neg HKk.out, List.append_nil]
          case measure => simp [intOf]; omega
    have hjF : j < F.len := by rw [HNl.out]; exact hjn
    have hjl : (j : Int) < (n : Int) := by omega
    have hs1 := HS.out (j + 1) hjn
    have hs1' : F.sumJ j + ((F.kidsAt j).size + 1) ≤ F.size := hs1
    obtain ⟨b, o', rfl, hFr⟩ := Vo.from_of_len (HI.out.1 _ (Below.refl _ _)).1 hjF
    obtain ⟨⟨c0, c1, c2, c3, c4, c5⟩, ck, ⟨cc1, cc2⟩, ch⟩ := Vo.from_at (Vo.from_grow hb F b o' hFr) hjF
    have HF : Hid (FitJ (F.hdAt j) (F.kidsAt j)) := fitJ_at hjF HI.out.2
    have hklen := jtext_len (step := []) (gap := []) (by simp) (by simp) 200 (F.hdAt j) (F.kidsAt j) [] (by simp only [List.length_nil]; omega) HF.out
    have HP : Hid (tlines ns F (j + 1) = tlines ns F j ++ (if (F.hdAt j).k = 6 then [] else (nameAt ns j).data.toList ++ ([32, 61, 32] ++ (jtext [] [] 200 (F.hdAt j) (F.kidsAt j) [] ++ [10])))) := rfl
    have HKid : Hid (((F.kidsAt j).In wp (F.addrAt j) ∧ (F.hdAt j).In wp)) := by
      obtain ⟨_, x2, _, x4⟩ := Vo.from_at hFr hjF
      exact ⟨x2, x4⟩
    clear ck ch
    obtain ⟨A, hA⟩ : ∃ A, A = tlines ns F j := ⟨_, rfl⟩
    rw [← hA] at hlj HP ⊢
    clear hA HT
    generalize F.hdAt j = xh at *
    generalize F.kidsAt j = xk at *
    generalize F.addrAt j = xa at *
    generalize F.capAt j = xc at *
    have HCk := hideIt (And.intro c0 (And.intro c1 (And.intro c2 (And.intro c3 (And.intro c4 c5)))))
    have hq := arr_size A
    have hcl := HNm.out.1.2 j
    have hsn := nameAt_some (ns := ns) (i := j) (by rw [HNm.out.1.1]; exact hjF)
    obtain ⟨nb, no, e1, e3⟩ : ∃ nb no, na = some ⟨nb, no, none⟩ ∧ wr.cell? ⟨nb, no + j, none⟩ = some (.string (nameAt ns j)) := by
      rcases HNm.out.2 _ hb with e | ⟨nb, no, e, hS⟩
      · rw [e] at hsn; simp at hsn
      · exact ⟨nb, no, e, (hS.at hsn).1⟩
    subst e1
    have hjn2 : (j : Int) < (ns.length : Int) := by rw [HNm.out.1.1, HNl.out]; exact hjl
    clear hsn
    have hqk := arr_size (jtext [] [] 200 xh xk [])
    by_cases hk : xh.k = 6
    · have hk' : (xh.k != 6) = false := by simp [bne, hk]
      have HKk := hideIt hk
      clear hk
      go_wp2_with fail
      go_round
      case rel =>
        refine ⟨j + 1, by go_num, by omega, ?_, hb⟩
        rw [HP.out, if_pos HKk.out, List.append_nil]
      case measure => simp [intOf]; omega
    · have hk' : (xh.k != 6) = true := by simp [bne, hk]
      have HKk := hideIt hk
      clear hk
      go_wp2_with fail
      refine tm6 (tx := ⟨(jtext [] [] 200 xh xk []).toArray⟩) (HX.out _ hb) (show Cells6 wr b (o' + j * 6) xh (.slice xa xk.len xc) from HCk.out) e3 rfl hjl hjn2 (by omega) (fun W' hW => ?_) (fun _ d _ _ _ h => by cases d <;> exact h) ?_
      · have hB1 := hb.trans (hW.mono hb.size)
        exact l7Put_all 200 xh xa xc xk W' (by omega) (by omega) HF.out (HKid.out.1.grow hB1) cc1 cc2 (HKid.out.2.grow hB1)
      intro ws v23 v24 v25 v26 v27 v28 v29 v30 v31 v32 v33 v34 v35 v36 v37 v38 hb2
      have hB2 := hb.trans (hb2.mono hb.size)
      clear x0 x1 x2 x3 x4 x5 c0 c1 c2 c3 c4 c5 e3
      go_wp2_with fail
      go_round
      case rel =>
        refine ⟨j + 1, by go_num, by omega, ?_, hB2⟩
        rw [HP.out, if_neg HKk.out]
        exact str_eq (by simp [ByteArray.data_append])
      case measure => simp [intOf]; omega
theorem l12Toml_all (N : Nat) : STom N := by
  induction N with
  | zero => intro h a c F path w hF; omega
  | succ N ih => exact l12Toml_step N ih
end Go.Proofs.Ytpgpkdeiapeoiaa
/- Values as lines, by the specification: TomlPut. -/
namespace Go.Proofs.Ytpgpkdeiapeoiaa
open Go.RowKit
/-- an answer that is a text and a truth -/
abbrev pairV (p : ByteArray × Bool) : Value := .tuple #[.string p.1, .bool p.2]
set_option maxRecDepth 100000 in
set_option maxHeartbeats 1000000 in
theorem sTomlPut_any (hd : Hd) (a : Option Addr) (c : Nat) (F : Vo) (w : World) (hF : F.size ≤ 1048576) (hin : F.In w a) (hl : F.len ≤ c) (hc : c ≤ maxLen) (hh : hd.In w) :
    Calls Try.prog 14 #[valV hd a F.len c] w fun r w' => r = .returned (pairV (tput hd F)) ∧ Below w.heap.size w w' := by
  obtain ⟨wp, hwp⟩ : ∃ wp, wp = w.alloc (.cells #[.int .i64 hd.k, .int .i64 hd.m, .int .i64 hd.e, .string hd.t, .slice a F.len c, .slice hd.na hd.ns.length hd.nc] 33) := ⟨_, rfl⟩
  have hBp : Below w.heap.size w wp := by subst hwp; exact (Below.refl _ w).alloc (Nat.le_refl _) _
  have hA : BxV w.heap.size hd (.slice a F.len c) wp := by subst hwp; exact BxV.new w hd _ _
  have hX1 : Hid (∀ W, Below wp.heap.size wp W → BxV w.heap.size hd (.slice a F.len c) W) := fun W hW => hA.below hW
  have HI : Hid (∀ W, Below wp.heap.size wp W → (F.In W a ∧ hd.In W) ∧ Below w.heap.size w W) := fun W hW => by
    have hb := hBp.trans (hW.mono hBp.size)
    exact ⟨⟨hin.grow hb, hh.grow hb⟩, hb⟩
  have HW := hideIt hwp
  have hB0 := Below.refl wp.heap.size wp
  clear hwp hA hin hh hBp
  go_enter Try.func14, Try.ntmps14
  go_wp2_with fail
  rw [← HW.out]
  clear HW
  refine (sValueOk_any hd a c F _ (by omega) (HI.out _ hB0).1.1 hl hc (HI.out _ hB0).1.2).mono ?_
  rintro r w1 ⟨⟨q1, rfl, hq1⟩, hb1⟩
  have HQ1 := hideIt hq1
  clear hq1
  obtain ⟨x0, x1, x2, x3, x4, x5⟩ := hX1.out _ hb1
  cases q1
  · have HR : Hid (tput hd F = (⟨#[]⟩, false)) := tput_no (fun x => by have := HQ1.out.2 x.1; cases this)
    have hbb := (HI.out _ hb1).2
    go_wp2_with fail
    exact bodyPost_ret (v := pairV (⟨#[]⟩, false)) (by simp [results, Try.results14, go_sem]) rfl ⟨by rw [HR.out], hbb⟩
  · have hv : ValOk hd F := by have q := HQ1.out; simpa using q
    have HV := hideIt hv
    have hs2 : F.size + 1 ≤ 200 := hv.1
    clear HQ1 hv
    go_wp2_with fail
    refine (l12Fits_any 300 hd a c F _ (by omega) (by omega) (HI.out _ hb1).1.1 hl hc (HI.out _ hb1).1.2).mono ?_
    rintro r w2 ⟨⟨q2, rfl, hq2⟩, hb2⟩
    have HQ2 := hideIt hq2
    have hB2 := hb1.trans (hb2.mono hb1.size)
    clear hq2 x0 x1 x2 x3 x4 x5 hb2
    obtain ⟨x0, x1, x2, x3, x4, x5⟩ := hX1.out _ hB2
    cases q2
    · have HR : Hid (tput hd F = (⟨#[]⟩, false)) := tput_no (fun x => by have := HQ2.out.2 x.2; cases this)
      have hbb := (HI.out _ hB2).2
      go_wp2_with fail
      exact bodyPost_ret (v := pairV (⟨#[]⟩, false)) (by simp [results, Try.results14, go_sem]) rfl ⟨by rw [HR.out], hbb⟩
    · have hf : fitsV hd F := by have q := HQ2.out; simpa using q
      have HR : Hid (tput hd F = (⟨(ttext 200 hd F []).toArray⟩, true)) := tput_ok ⟨HV.out, hf⟩
      have HF := hideIt hf
      clear HQ2 hf
      go_wp2_with fail
      refine (l12Toml_all 200 hd a c F ⟨#[]⟩ _ (by omega) (by omega) (by show 0 + 13 * 200 ≤ 3000; omega) HF.out.1 ⟨HV.out.2.2.1, HV.out.2.2.2⟩ (HI.out _ hB2).1.1 hl hc (HI.out _ hB2).1.2).mono ?_
      rintro r w3 ⟨rfl, hb3⟩
      have hbb := (HI.out _ (hB2.trans (hb3.mono hB2.size))).2
      clear x0 x1 x2 x3 x4 x5
      go_wp2_with fail
      exact bodyPost_ret (v := pairV (⟨(ttext 200 hd F []).toArray⟩, true)) (by simp [results, Try.results14, go_sem]) rfl ⟨by rw [HR.out], hbb⟩
end Go.Proofs.Ytpgpkdeiapeoiaa
/- Values as lines, by the program: TomlPut. -/
namespace Go.Proofs.Ytpgpkdeiapeoiaa
open Go.RowKit
attribute [local go_sem] cell_alloc_is frozen_alloc_is
set_option maxRecDepth 100000 in
set_option maxHeartbeats 1000000 in
theorem newLinesWriter_any (kb : Nat) (w : World) :
    Calls Try.prog 52 #[.pointer (some ⟨kb, 0, none⟩)] w fun e w' => e = .returned (wrV kb ⟨#[]⟩ ⟨#[]⟩) ∧ Below w.heap.size w w' := by
  go_enter Try.func52, Try.ntmps52
  go_wp2_with fail
  obtain ⟨W1, hW1⟩ : ∃ W1, w.alloc (.cells #[.pointer none, .string ⟨#[]⟩, .string ⟨#[]⟩, .string ⟨#[]⟩, .int .i64 0, .string ⟨#[]⟩, .string ⟨#[]⟩] 87) = W1 := ⟨_, rfl⟩
  have R1 : Row W1 w.heap.size [.pointer none, .string ⟨#[]⟩, .string ⟨#[]⟩, .string ⟨#[]⟩, .int .i64 0, .string ⟨#[]⟩, .string ⟨#[]⟩] := by rw [← hW1]; exact Row.new w [.pointer none, .string ⟨#[]⟩, .string ⟨#[]⟩, .string ⟨#[]⟩, .int .i64 0, .string ⟨#[]⟩, .string ⟨#[]⟩] 87
  have hB1 : Below w.heap.size w W1 := by rw [← hW1]; exact (Below.refl _ w).alloc (Nat.le_refl _) _
  rw [hW1]
  clear hW1
  refine (newJsonWriter_any kb _).mono ?_
  rintro e w2 ⟨rfl, hb2⟩
  have R2 := R1.below hb2 R1.lt
  have hB2 := hB1.trans (hb2.mono hB1.size)
  obtain ⟨y0, z0⟩ := R2 0 _ rfl
  obtain ⟨y1, z1⟩ := R2 1 _ rfl
  obtain ⟨y2, z2⟩ := R2 2 _ rfl
  obtain ⟨y3, z3⟩ := R2 3 _ rfl
  obtain ⟨y4, z4⟩ := R2 4 _ rfl
  obtain ⟨y5, z5⟩ := R2 5 _ rfl
  obtain ⟨y6, z6⟩ := R2 6 _ rfl
  clear hb2 hB1 R1
  go_wp2_with fail
  have R3 := (((((((R2.set (i := 0) (by simp) (.pointer (some ⟨kb, 0, none⟩))).set (i := 1) (by simp) (.string ⟨#[92, 117, 48, 48]⟩)).set (i := 2) (by simp) (.string ⟨#[34, 92, 47, 98, 102, 110, 114, 116]⟩)).set (i := 3) (by simp) (.string ⟨#[34, 92, 47, 8, 12, 10, 13, 9]⟩)).set (i := 4) (by simp) (.int .i64 2)).set (i := 5) (by simp) (.string ⟨#[]⟩)).set (i := 6) (by simp) (.string ⟨#[]⟩))
  have hB3 := (((((((hB2.setCell (p := ⟨w.heap.size, 0, none⟩) (Nat.le_refl _) (.pointer (some ⟨kb, 0, none⟩))).setCell (p := ⟨w.heap.size, 1, none⟩) (Nat.le_refl _) (.string ⟨#[92, 117, 48, 48]⟩)).setCell (p := ⟨w.heap.size, 2, none⟩) (Nat.le_refl _) (.string ⟨#[34, 92, 47, 98, 102, 110, 114, 116]⟩)).setCell (p := ⟨w.heap.size, 3, none⟩) (Nat.le_refl _) (.string ⟨#[34, 92, 47, 8, 12, 10, 13, 9]⟩)).setCell (p := ⟨w.heap.size, 4, none⟩) (Nat.le_refl _) (.int .i64 2)).setCell (p := ⟨w.heap.size, 5, none⟩) (Nat.le_refl _) (.string ⟨#[]⟩)).setCell (p := ⟨w.heap.size, 6, none⟩) (Nat.le_refl _) (.string ⟨#[]⟩))
  revert R3 hB3
  generalize (((((((w2.setCell _ _).setCell _ _).setCell _ _).setCell _ _).setCell _ _).setCell _ _).setCell _ _) = w9
  intro R3 hB3
  have c0 := (R3 0 _ rfl).1
  have c1 := (R3 1 _ rfl).1
  have c2 := (R3 2 _ rfl).1
  have c3 := (R3 3 _ rfl).1
  have c4 := (R3 4 _ rfl).1
  have c5 := (R3 5 _ rfl).1
  have c6 := (R3 6 _ rfl).1
  exact bodyPost_ret (v := wrV kb ⟨#[]⟩ ⟨#[]⟩) (by simp [results, Try.results52, go_sem, c0, c1, c2, c3, c4, c5, c6]) rfl ⟨rfl, hB3⟩
set_option maxRecDepth 100000 in
set_option maxHeartbeats 1000000 in
theorem lp4 {Q : Exit → Act → World → Prop} {t0 t1 t3 t4 t5 t7 t8 t9 t10 t11 t12 t13 t14 t15 t16 t17 t18 t19 : Value} {W : World} {bv B kb : Nat} {hd : Hd} {a : Option Addr} {c : Nat} {F : Vo} {L : List UInt8}
    (hA : BxV bv hd (.slice a F.len c) W) (hcall : ∀ W', Below W.heap.size W W' → Calls Try.prog 53 #[wrV kb ⟨#[]⟩ ⟨#[]⟩, valV hd a F.len c, .string ⟨#[]⟩] W' fun r w' => r = .returned (.tuple #[]) ∧ Wr B kb W' L w') (hbv : bv < B) (hBW : B ≤ W.heap.size)
    (hp : ∀ p d v a w, Q (.panic p) (Act.put a d v) w → Q (.panic p) a w) (h_ : ∀ ws v16 v17 v18, (Wr B kb W L ws) → Q .normal { tmps := (t0 :: t1 :: (.pointer (some ⟨bv, 0, none⟩)) :: t3 :: t4 :: t5 :: (.pointer (some ⟨kb, 0, none⟩)) :: t7 :: t8 :: t9 :: t10 :: t11 :: t12 :: t13 :: t14 :: t15 :: v16 :: v17 :: v18 :: t19 :: []).toArray, defers := [] } ws) :
    Code.wp Try.prog (Code.region 4 #[{ dst := some 16, op := Op.call { callee := Callee.value (Operand.func 52), args := #[Operand.tmp 6], argTypes := #[45] }, type := 87, pos := "l12_out.go:82", after := #[], guard := none }, { dst := some 17, op := Op.load 33 (Operand.tmp 2), type := 33, pos := "l12_out.go:82", after := #[], guard := none }, { dst := some 18, op := Op.call { callee := Callee.value (Operand.func 53), args := #[Operand.tmp 16, Operand.tmp 17, Operand.const (Value.string { data := #[] })], argTypes := #[87, 33, 9] }, type := 0, pos := "l12_out.go:82", after := #[{ on := 0, ground := Ground.data }, { on := 1, ground := Ground.data }, { on := 0, ground := Ground.chain }], guard := none }] true) Q { tmps := (t0 :: t1 :: (.pointer (some ⟨bv, 0, none⟩)) :: t3 :: t4 :: t5 :: (.pointer (some ⟨kb, 0, none⟩)) :: t7 :: t8 :: t9 :: t10 :: t11 :: t12 :: t13 :: t14 :: t15 :: t16 :: t17 :: t18 :: t19 :: []).toArray, defers := [] } W := by
  have HSof : Hid (∀ w', Below W.heap.size W w' → BxV bv hd (.slice a F.len c) w') := fun w' h => hA.below h
  have hB0 := (Below.refl W.heap.size W).drew
  have hS0 := HSof.out _ hB0
  clear hA
  refine wp_region_held_drew (S := fun w' => BxV bv hd (.slice a F.len c) w') (by kernel_rfl) hS0 (fun hHeld => ?_)
  refine wpAnyH_take (i := 1) (v := valV hd a F.len c) rfl (by kernel_rfl) (by kernel_rfl) (by kernel_rfl) (fun _ _ _ h => hp _ _ _ _ _ h) (Or.inl ⟨by rfl, ?_⟩) (by assumption) ?_
  · intro w hSw
    (try dsimp only at hSw)
    go_simp
  (try simp only [Act.put, List.getElem_toArray, List.getElem_cons_zero, List.getElem_cons_succ, List.setIfInBounds_toArray, List.set_cons_zero, List.set_cons_succ])
  refine wpAnyH_ready (rs := [0]) (by kernel_rfl) (by simp) ?_
  refine AllReadyH.cons rfl (fun K hK => ?_) AllReadyH.nil
  go_simp
  refine (newLinesWriter_any kb _).mono ?_
  rintro r w1 ⟨rfl, hb1⟩
  have hB1 := hB0.trans (hb1.mono hB0.size)
  go_wp2_with fail
  refine hK.out _ _ (HSof.out _ hB1) (fun hHeld => ?_)
  clear hK K hb1 hB0
  refine wpAnyH_ready (rs := [2]) (by kernel_rfl) (by simp) ?_
  refine AllReadyH.cons rfl (fun K hK => ?_) AllReadyH.nil
  go_simp
  refine (hcall _ hB1).mono ?_
  rintro r w2 ⟨rfl, hw2⟩
  have hS2 := hideIt (show BxV bv hd (.slice a F.len c) w2 from by
    have h1 := HSof.out _ hB1
    have hb := hw2.2.1
    obtain ⟨y0, y1, y2, y3, y4, y5⟩ := h1
    exact ⟨(hb.cell (p := ⟨bv, 0, none⟩) hbv).trans y0, (hb.cell (p := ⟨bv, 1, none⟩) hbv).trans y1, (hb.cell (p := ⟨bv, 2, none⟩) hbv).trans y2, (hb.cell (p := ⟨bv, 3, none⟩) hbv).trans y3, (hb.cell (p := ⟨bv, 4, none⟩) hbv).trans y4, (hb.cell (p := ⟨bv, 5, none⟩) hbv).trans y5⟩)
  have HW2 := hideIt hw2
  clear hw2
  go_wp2_with fail
  refine hK.out _ _ hS2.out (fun hHeld => ?_)
  clear hK K
  refine wpAnyH_done (by kernel_rfl) ?_ _
  exact h_ _ _ _ _ ⟨HW2.out.1, (hB1.mono hBW).trans HW2.out.2.1, kept_trans (kept_of_below hB1) HW2.out.2.2⟩
set_option maxRecDepth 100000 in
set_option maxHeartbeats 1000000 in
theorem linesToml_any (hd : Hd) (a : Option Addr) (c : Nat) (F : Vo) (w : World) (hF : F.size ≤ 1048576) (hin : F.In w a) (hl : F.len ≤ c) (hc : c ≤ maxLen) (hh : hd.In w) :
    Calls Try.prog 35 #[valV hd a F.len c, .func (.func 36) #[] #[]] w fun r w' => r = .returned (pairV (tput hd F)) ∧ Below w.heap.size w w' := by
  obtain ⟨wp, hwp⟩ : ∃ wp, wp = w.alloc (.cells #[.int .i64 hd.k, .int .i64 hd.m, .int .i64 hd.e, .string hd.t, .slice a F.len c, .slice hd.na hd.ns.length hd.nc] 33) := ⟨_, rfl⟩
  have hBp : Below w.heap.size w wp := by subst hwp; exact (Below.refl _ w).alloc (Nat.le_refl _) _
  have hA : BxV w.heap.size hd (.slice a F.len c) wp := by subst hwp; exact BxV.new w hd _ _
  have hX1 : Hid (∀ W, Below wp.heap.size wp W → BxV w.heap.size hd (.slice a F.len c) W) := fun W hW => hA.below hW
  have HI : Hid (∀ W, Below wp.heap.size wp W → (F.In W a ∧ hd.In W) ∧ Below w.heap.size w W) := fun W hW => by
    have hb := hBp.trans (hW.mono hBp.size)
    exact ⟨⟨hin.grow hb, hh.grow hb⟩, hb⟩
  have HW := hideIt hwp
  have hB0 := Below.refl wp.heap.size wp
  clear hwp hA hin hh hBp
  go_enter Try.func35, Try.ntmps35
  go_wp2_with fail
  rw [← HW.out]
  clear HW
  refine (iValueOk_any hd a c F _ (by omega) (HI.out _ hB0).1.1 hl hc (HI.out _ hB0).1.2).mono ?_
  rintro r w1 ⟨⟨q1, rfl, hq1⟩, hb1⟩
  have HQ1 := hideIt (hq1.trans (good_ok _ _))
  clear hq1
  obtain ⟨x0, x1, x2, x3, x4, x5⟩ := hX1.out _ hb1
  cases q1
  · have HR : Hid (tput hd F = (⟨#[]⟩, false)) := tput_no (fun x => by have := HQ1.out.2 x.1; cases this)
    have hbb := (HI.out _ hb1).2
    go_wp2_with fail
    exact bodyPost_ret (v := pairV (⟨#[]⟩, false)) (by simp [results, Try.results35, go_sem]) rfl ⟨by rw [HR.out], hbb⟩
  · have hv : ValOk hd F := HQ1.out.1 rfl
    have HV := hideIt hv
    have hs2 : F.size + 1 ≤ 200 := hv.1
    clear HQ1 hv
    go_wp2_with fail
    refine (fitsToml_all 300 hd a c F _ (by omega) (by omega) (HI.out _ hb1).1.1 hl hc (HI.out _ hb1).1.2).mono ?_
    rintro r w1' ⟨⟨q2, rfl, hq2⟩, hb1'⟩
    have HQ2 := hideIt hq2
    have hb1 := hb1.trans (hb1'.mono hb1.size)
    clear hq2 x0 x1 x2 x3 x4 x5 hb1'
    obtain ⟨x0, x1, x2, x3, x4, x5⟩ := hX1.out _ hb1
    cases q2
    · have HR : Hid (tput hd F = (⟨#[]⟩, false)) := tput_no (fun x => by have := HQ2.out.2 x.2; cases this)
      have hbb := (HI.out _ hb1).2
      go_wp2_with fail
      exact bodyPost_ret (v := pairV (⟨#[]⟩, false)) (by simp [results, Try.results35, go_sem]) rfl ⟨by rw [HR.out], hbb⟩
    have hf : fitsV hd F := by have q := HQ2.out; simpa using q
    have HR : Hid (tput hd F = (⟨(ttext 200 hd F []).toArray⟩, true)) := tput_ok ⟨HV.out, hf⟩
    have HF := hideIt hf
    clear HQ2 hf
    go_wp2_with fail
    have hH : Holds w1'.heap.size w1'.heap.size [] (w1'.alloc (.cells #[.pointer none, .slice none 0 0] 48)) := by
      have := Lib.IsBuilderF.of (Lib.fresh_isBuilder 48 5 w1')
      exact this
    obtain ⟨w2, hw2⟩ : ∃ w2, w1'.alloc (.cells #[.pointer none, .slice none 0 0] 48) = w2 := ⟨_, rfl⟩
    have hb2 : Below w1'.heap.size w1' w2 := by rw [← hw2]; exact (Below.refl _ w1').alloc (Nat.le_refl _) _
    rw [hw2] at hH ⊢
    have hz2 : w2.heap.size = w1'.heap.size + 1 := by rw [← hw2]; simp
    clear hw2
    have hbv : w.heap.size < w1'.heap.size := World.block_lt_of_cell? _ _ x0
    have hA2 := hX1.out _ (hb1.trans (hb2.mono hb1.size))
    clear x0 x1 x2 x3 x4 x5
    refine lp4 (L := ttext 200 hd F []) (B := w1'.heap.size) hA2 (fun W' hW => ?_) hbv (by omega) (fun _ d _ _ _ h => by cases d <;> exact h) ?_
    · exact (object_all 200 hd a c F ⟨#[]⟩ [] w1'.heap.size w1'.heap.size W' w1' (by omega) (by omega) (by show 0 + 13 * 200 ≤ 3000; omega) HF.out.1 (by rw [List.length_nil]; omega) ⟨HV.out.2.2.1, HV.out.2.2.2⟩ (HI.out _ hb1).1.1 hl hc (HI.out _ hb1).1.2 (Nat.le_refl _) (Nat.le_refl _) (hb2.trans (hW.mono hb2.size)) (holds_belowJ hH hW) (by have := hW.size; omega)).mono (fun _ _ h => ⟨h.1, by simpa using h.2⟩)
    intro w4 v16 v17 v18 h4
    have HW4 := hideIt h4
    have hb34 := h4.2.1
    have hz4 := hb34.size
    clear h4 hA2
    go_wp2_with fail
    refine (bString _ _ _ _ HW4.out.1.1 HW4.out.1.2).mono ?_
    rintro e w5 ⟨rfl, h5, b5, k5⟩
    have hbe := (HI.out _ (hb1.trans ((hb2.trans (hb34.trans b5)).mono hb1.size))).2
    go_wp2_with fail
    exact bodyPost_ret (v := pairV (⟨(ttext 200 hd F []).toArray⟩, true)) (by simp [results, Try.results35, go_sem]) rfl ⟨by rw [HR.out], hbe⟩
set_option maxRecDepth 100000 in
set_option maxHeartbeats 1000000 in
theorem iTomlPut_any (hd : Hd) (a : Option Addr) (c : Nat) (F : Vo) (w : World) (hF : F.size ≤ 1048576) (hin : F.In w a) (hl : F.len ≤ c) (hc : c ≤ maxLen) (hh : hd.In w) :
    Calls Try.prog 15 #[valV hd a F.len c] w fun r w' => r = .returned (pairV (tput hd F)) ∧ Below w.heap.size w w' := by
  have hB0 := (Below.refl _ w).alloc (Nat.le_refl _) (.cells #[.int .i64 hd.k, .int .i64 hd.m, .int .i64 hd.e, .string hd.t, .slice a F.len c, .slice hd.na hd.ns.length hd.nc] 33)
  have HC := hideIt (linesToml_any hd a c F _ hF (hin.grow hB0) hl hc (hh.grow hB0))
  clear hin hh
  go_enter Try.func15, Try.ntmps15
  go_wp2_with fail
  refine HC.out.mono ?_
  rintro r w1 ⟨rfl, hb1⟩
  have hB1 := hB0.trans (hb1.mono hB0.size)
  clear HC hb1
  go_wp2_with fail
  exact bodyPost_ret (v := pairV (tput hd F)) (by simp [results, Try.results15, go_sem]) rfl ⟨rfl, hB1⟩
end Go.Proofs.Ytpgpkdeiapeoiaa
/- Trees: what is read as a tree, or as a list of trees, is one: the argument of a law opened. -/
namespace Go.Proofs.Ytpgpkdeiapeoiaa
open Go.RowKit Go.Deep Go.ChangeShapes Go.WideShapes
/-- all heads in it are such -/
def Fo.All (P : Int → ByteArray → Int → Int → Prop) : Fo → Prop
  | .nil => True
  | .cons k t m e _ _ kids next => P k t m e ∧ kids.All P ∧ next.All P
abbrev I64 (n : Int) : Prop := (Lit.int .i64 n).wf = true
/-- numbers that are numbers, texts that are no longer than texts can be -/
abbrev HeadOk (k : Int) (t : ByteArray) (m e : Int) : Prop := I64 k ∧ t.size ≤ maxLen ∧ I64 m ∧ I64 e
section
variable {H : Type} {enc : TypeId × Value → H} {W : World} {base : Nat} {spare : Nat → Bool} {held : Bool}
theorem cellsDec : Try.prog.cellsOf 23 = 2 := by kernel_rfl
theorem cellsInt : Try.prog.cellsOf 3 = 1 := by kernel_rfl
theorem cellsStr : Try.prog.cellsOf 9 = 1 := by kernel_rfl
theorem list5 {α : Type} {cs : List α} (h : cs.length = 5) : ∃ c0 c1 c2 c3 c4, cs = [c0, c1, c2, c3, c4] := by
  match cs, h with
  | [c0, c1, c2, c3, c4], _ => exact ⟨c0, c1, c2, c3, c4, rfl⟩
theorem list4 {α : Type} {cs : List α} (h : cs.length = 4) : ∃ c0 c1 c2 c3, cs = [c0, c1, c2, c3] := by
  match cs, h with
  | [c0, c1, c2, c3], _ => exact ⟨c0, c1, c2, c3, rfl⟩
theorem list2 {α : Type} {cs : List α} (h : cs.length = 2) : ∃ c0 c1, cs = [c0, c1] := by
  match cs, h with
  | [c0, c1], _ => exact ⟨c0, c1, rfl⟩
theorem open_dec {fuel : Nat} {cs : List Value} {x : DataW H × List MemPlace} (h : DataW.trod enc Try.prog W base spare held fuel 23 cs = some x) :
    ∃ (m e : Int), cs = [.int .i64 m, .int .i64 e] ∧ I64 m ∧ I64 e := by
  obtain ⟨xs, n, rfl, _, hl, hxs, hf⟩ := DataW.trod_struct Try.underlying23 h
  rw [cellsDec] at hl
  obtain ⟨c0, c1, rfl⟩ := list2 hl
  obtain ⟨y0, y1, rfl⟩ := list2 (show xs.length = 2 from hxs)
  have h0 := hf 0 _ rfl
  have h1 := hf 1 _ rfl
  simp [cellsInt] at h0 h1
  obtain ⟨m, e0, _, w0⟩ := DataW.trod_int Try.underlying3 h0
  obtain ⟨e, e1, _, w1⟩ := DataW.trod_int Try.underlying3 h1
  simp at e0 e1
  subst e0 e1
  exact ⟨m, e, rfl, w0, w1⟩
theorem add_none (b o i : Nat) : Addr.add ⟨b, o, none⟩ i = ⟨b, o + i, none⟩ := by
  by_cases hi0 : i = 0
  · subst hi0; simp [Addr.add]
  · simp [Addr.add, hi0]
end
end Go.Proofs.Ytpgpkdeiapeoiaa
/- Values: what is read as a value, or as a list of values, is one: the argument of a law opened. -/
namespace Go.Proofs.Ytpgpkdeiapeoiaa
open Go.RowKit Go.Deep Go.ChangeShapes Go.WideShapes
section
variable {H : Type} {enc : TypeId × Value → H} {W : World} {base : Nat} {spare : Nat → Bool} {held : Bool}
theorem cellsV : Try.prog.cellsOf 27 = 6 := by kernel_rfl
theorem cellsVs : Try.prog.cellsOf 24 = 1 := by kernel_rfl
theorem cellsSs : Try.prog.cellsOf 25 = 1 := by kernel_rfl
theorem list6 {α : Type} {cs : List α} (h : cs.length = 6) : ∃ c0 c1 c2 c3 c4 c5, cs = [c0, c1, c2, c3, c4, c5] := by
  match cs, h with
  | [c0, c1, c2, c3, c4, c5], _ => exact ⟨c0, c1, c2, c3, c4, c5, rfl⟩
theorem list5' {α : Type} {cs : List α} (h : cs.length = 5) : ∃ c0 c1 c2 c3 c4, cs = [c0, c1, c2, c3, c4] := by
  match cs, h with
  | [c0, c1, c2, c3, c4], _ => exact ⟨c0, c1, c2, c3, c4, rfl⟩
theorem open_strs {fuel : Nat} {cs : List Value} {x : DataW H × List MemPlace} (h : DataW.trod enc Try.prog W base spare held fuel 25 cs = some x) :
    ∃ (a : Option Addr) (ss : List ByteArray) (cap : Nat), cs = [.slice a ss.length cap] ∧ SIn W ss a ∧ ss.length ≤ cap ∧ cap ≤ maxLen := by
  rcases DataW.trod_slice Try.underlying25 h with ⟨rfl, _⟩ | ⟨a, len, cap, elems, rest, n, rfl, rfl, _, _, hl, hm, hlen, hel, _⟩
  · exact ⟨none, [], 0, rfl, .inl rfl, Nat.le_refl _, by unfold maxLen; omega⟩
  rw [cellsStr] at hel
  have key : ∀ i, i < len → ∃ t : ByteArray, t.size ≤ maxLen ∧ W.cell? (a.add i) = some (.string t) := by
    intro i hi
    have he := hel i hi
    rw [List.getElem?_eq_getElem (by omega)] at he
    obtain ⟨cs', h1, h2⟩ := Option.bind_eq_some_iff.1 he
    obtain ⟨t, e1, _, w1⟩ := DataW.trod_string Try.underlying9 h2
    subst e1
    obtain ⟨_, _, hc⟩ := World.cells?_some h1
    have h3 := hc 0 (by omega)
    refine ⟨t, w1, ?_⟩
    rw [add_add, Nat.mul_one, Nat.add_zero] at h3
    exact h3
  by_cases h0 : len = 0
  · subst h0
    exact ⟨some a, [], cap, rfl, .inl rfl, Nat.zero_le _, hm⟩
  obtain ⟨b, o, spot⟩ := a
  have hspot : spot = none := by
    obtain ⟨t, _, hc⟩ := key 0 (by omega)
    have := World.cell?_spot hc
    simpa [Addr.add] using this
  subst hspot
  have all : ∀ d i, i + d = len → ∃ ss : List ByteArray, ss.length = d ∧ SFrom W ss b (o + i) := by
    intro d
    induction d with
    | zero => intro i _; exact ⟨[], rfl, trivial⟩
    | succ d ihd =>
      intro i hi
      obtain ⟨t, h1, hc⟩ := key i (by omega)
      obtain ⟨ss, hs1, hs2⟩ := ihd (i + 1) (by omega)
      rw [add_none] at hc
      exact ⟨t :: ss, by rw [List.length_cons, hs1], hc, h1, by rw [show o + i + 1 = o + (i + 1) by omega]; exact hs2⟩
  obtain ⟨ss, hs1, hs2⟩ := all len 0 (by omega)
  subst hs1
  exact ⟨some ⟨b, o, none⟩, ss, cap, rfl, .inr ⟨b, o, rfl, by simpa using hs2⟩, hl, hm⟩
theorem open_val {fuel : Nat} {cs : List Value} {x : DataW H × List MemPlace} (h : DataW.trod enc Try.prog W base spare held fuel 27 cs = some x) :
    ∃ (hd : Hd) (v : Value) (y : DataW H × List MemPlace) (n : Nat), fuel = n + 1 ∧ cs = [.int .i64 hd.k, .int .i64 hd.m, .int .i64 hd.e, .string hd.t, v, .slice hd.na hd.ns.length hd.nc] ∧ hd.In W ∧
      DataW.trod enc Try.prog W base spare held n 24 [v] = some y := by
  obtain ⟨xs, n, rfl, _, hl, hxs, hf⟩ := DataW.trod_struct Try.underlying27 h
  rw [cellsV] at hl
  obtain ⟨c0, c1, c2, c3, c4, c5, rfl⟩ := list6 hl
  obtain ⟨y0, y1, y2, y3, y4, rfl⟩ := list5' (show xs.length = 5 from hxs)
  have h0 := hf 0 _ rfl
  have h1 := hf 1 _ rfl
  have h2 := hf 2 _ rfl
  have h3 := hf 3 _ rfl
  have h4 := hf 4 _ rfl
  simp [cellsInt, cellsStr, cellsDec, cellsVs, cellsSs] at h0 h1 h2 h3 h4
  obtain ⟨k, e0, _, w0⟩ := DataW.trod_int Try.underlying3 h0
  obtain ⟨m, e, e2, w2, w3⟩ := open_dec h1
  obtain ⟨t, e1, _, w1⟩ := DataW.trod_string Try.underlying9 h2
  obtain ⟨na, ns, nc, e4, i1, i2, i3⟩ := open_strs h4
  simp at e0 e1 e2 e4
  obtain ⟨rfl, rfl⟩ := e2
  subst e0 e1 e4
  exact ⟨⟨k, m, e, t, na, nc, ns⟩, c4, y3, n, rfl, rfl, ⟨i1, ⟨i2, i3⟩, w1⟩, h3⟩
theorem open_vals : ∀ (fuel : Nat) (cs : List Value) (x : DataW H × List MemPlace), DataW.trod enc Try.prog W base spare held fuel 24 cs = some x →
    ∃ (a : Option Addr) (F : Vo) (cap : Nat), cs = [.slice a F.len cap] ∧ F.In W a ∧ F.len ≤ cap ∧ cap ≤ maxLen := by
  intro fuel
  induction fuel using Nat.strongRecOn with
  | _ fuel ih =>
    intro cs x h
    rcases DataW.trod_slice Try.underlying24 h with ⟨rfl, _⟩ | ⟨a, len, cap, elems, rest, n, rfl, rfl, _, _, hl, hm, hlen, hel, _⟩
    · exact ⟨none, .nil, 0, rfl, .inl rfl, Nat.le_refl _, by unfold maxLen; omega⟩
    rw [cellsV] at hel
    have key : ∀ i, i < len → ∃ (hd : Hd) (a' : Option Addr) (F' : Vo) (c' : Nat), hd.In W ∧ F'.In W a' ∧ F'.len ≤ c' ∧ c' ≤ maxLen ∧
        (∀ j, j < 6 → W.cell? (a.add (i * 6 + j)) = ([.int .i64 hd.k, .int .i64 hd.m, .int .i64 hd.e, .string hd.t, .slice a' F'.len c', .slice hd.na hd.ns.length hd.nc] : List Value)[j]?) := by
      intro i hi
      have he := hel i hi
      rw [List.getElem?_eq_getElem (by omega)] at he
      obtain ⟨cs', h1, h2⟩ := Option.bind_eq_some_iff.1 he
      obtain ⟨hd, v, y, n', rfl, rfl, hh, h3⟩ := open_val h2
      obtain ⟨a', F', c', hv, hin, hc1, hc2⟩ := ih n' (by omega) _ _ h3
      simp at hv
      subst hv
      obtain ⟨_, _, hc⟩ := World.cells?_some h1
      refine ⟨hd, a', F', c', hh, hin, hc1, hc2, fun j hj => ?_⟩
      rw [← add_add]
      exact hc j hj
    by_cases h0 : len = 0
    · subst h0
      exact ⟨some a, .nil, cap, rfl, .inl rfl, Nat.zero_le _, hm⟩
    obtain ⟨b, o, spot⟩ := a
    have hspot : spot = none := by
      obtain ⟨hd, a', F', c', _, _, _, _, hc⟩ := key 0 (by omega)
      have := World.cell?_spot (hc 0 (by omega))
      simpa [Addr.add] using this
    subst hspot
    have all : ∀ d i, i + d = len → ∃ G : Vo, G.len = d ∧ G.From W b (o + i * 6) := by
      intro d
      induction d with
      | zero => intro i _; exact ⟨.nil, rfl, trivial⟩
      | succ d ihd =>
        intro i hi
        obtain ⟨hd, a', F', c', hh, hin, hc1, hc2, hc⟩ := key i (by omega)
        obtain ⟨G, hG1, hG2⟩ := ihd (i + 1) (by omega)
        have c0 := hc 0 (by omega)
        have c1 := hc 1 (by omega)
        have c2 := hc 2 (by omega)
        have c3 := hc 3 (by omega)
        have c4 := hc 4 (by omega)
        have c5 := hc 5 (by omega)
        simp only [add_none] at c0 c1 c2 c3 c4 c5
        refine ⟨.cons hd a' c' F' G, by show G.len + 1 = d + 1; omega, ⟨c0, c1, c2, c3, c4, c5⟩, hin, ⟨hc1, hc2⟩, hh, ?_⟩
        rw [show o + i * 6 + 6 = o + (i + 1) * 6 by omega]; exact hG2
    obtain ⟨F, hF1, hF2⟩ := all len 0 (by omega)
    subst hF1
    refine ⟨some ⟨b, o, none⟩, F, cap, rfl, .inr ⟨b, o, rfl, by simpa using hF2⟩, hl, hm⟩
set_option maxRecDepth 100000 in
/-- a value that comes in, opened -/
theorem open_value {r : Reach} {b0 : Nat} {v : Value} {d : DataW H} {p : List MemPlace} (hv : Value.okWide Try.prog W r b0 27 v) (h : DataW.Trod enc Try.prog W base spare held 27 v d p) :
    ∃ (hd : Hd) (a : Option Addr) (F : Vo) (c : Nat), v = valV hd a F.len c ∧ hd.In W ∧ F.In W a ∧ F.len ≤ c ∧ c ≤ maxLen := by
  obtain ⟨cs, rfl, _⟩ := okWide_struct Try.underlying27 hv
  obtain ⟨fuel, hf⟩ := h
  obtain ⟨hd, v, y, n, rfl, hc, hh, h3⟩ := open_val hf
  obtain ⟨a, F, c, hv, hin, hc1, hc2⟩ := open_vals n _ _ h3
  simp at hv
  subst hv
  have : cs = #[.int .i64 hd.k, .int .i64 hd.m, .int .i64 hd.e, .string hd.t, .slice a F.len c, .slice hd.na hd.ns.length hd.nc] := by
    cases cs
    simpa [Value.cells] using hc
  subst this
  exact ⟨hd, a, F, c, rfl, hh, hin, hc1, hc2⟩
end
end Go.Proofs.Ytpgpkdeiapeoiaa
/- The law FnExactTomlPut walked. -/
namespace Go.Proofs.Ytpgpkdeiapeoiaa
open Go.RowKit
theorem tput_copy {h : Hd} {n : Nat} {F F1 : Vo} (x : F1.alike F) : tput (h.to n) F1 = tput h F := by
  have e : fitsV (h.to n) F1 = fitsV h F := propext (and_congr Iff.rfl (fits_alike x))
  unfold tput
  rw [propext (ok_copy x), e, ttext_alike 200 (h := h.to n) (h' := h) [] ⟨⟨rfl, rfl, rfl, rfl⟩, rfl⟩ x]
set_option maxRecDepth 100000 in
set_option maxHeartbeats 1000000 in
theorem tpl10 {Q : Exit → Act → World → Prop} {t0 t2 t3 t4 t5 t7 t8 t9 t10 t11 t12 t13 t14 t15 t16 t17 t18 t19 t20 t21 t22 t23 t24 t25 t26 t27 t28 t29 t30 t31 t32 t33 t34 t35 t36 t37 t38 t39 : Value} {W : World} {b bx nb n2 : Nat} {F2 : Vo} {hd : Hd} {a : Option Addr} {F : Vo} {c : Nat}
    (hA : BxV b hd (.slice a F.len c) W) (hX : BxV bx (hd.to n2) (.slice (some ⟨nb, 0, none⟩) F2.len F2.len) W) (hin : F.In W a) (hF2 : F2.From W nb 0) (hi2 : (hd.to n2).In W) (ha : F2.alike F) (hl : F.len ≤ c) (hc : c ≤ maxLen) (hh : hd.In W) (hs : F.wt ≤ 1048576) (hsn : hd.ns.length ≤ 1048576)
    (hp : ∀ p d v a w, Q (.panic p) (Act.put a d v) w → Q (.panic p) a w) (h : ∀ ws v35 v36 v37 v38, Below W.heap.size W ws → Q .normal { tmps := (t0 :: .pointer (some ⟨b, 0, none⟩) :: t2 :: t3 :: t4 :: t5 :: .pointer (some ⟨bx, 0, none⟩) :: t7 :: t8 :: t9 :: t10 :: t11 :: t12 :: t13 :: t14 :: t15 :: t16 :: t17 :: t18 :: t19 :: t20 :: t21 :: t22 :: t23 :: t24 :: t25 :: t26 :: t27 :: t28 :: t29 :: t30 :: t31 :: t32 :: t33 :: t34 :: v35 :: v36 :: v37 :: v38 :: .bool false :: []).toArray, defers := [] } ws) :
    Code.wp Try.prog (Code.region 10 #[{ dst := some 35, op := Op.load 33 (Operand.tmp 6), type := 33, pos := "exact.go:1005", after := #[], guard := none }, { dst := some 36, op := Op.load 27 (Operand.tmp 1), type := 27, pos := "exact.go:1005", after := #[], guard := none }, { dst := some 37, op := Op.call { callee := Callee.value (Operand.func 9), args := #[Operand.tmp 36], argTypes := #[27] }, type := 33, pos := "exact.go:1005", after := #[{ on := 1, ground := Ground.data }], guard := none }, { dst := some 38, op := Op.call { callee := Callee.value (Operand.func 11), args := #[Operand.tmp 35, Operand.tmp 37], argTypes := #[33, 33] }, type := 4, pos := "exact.go:1005", after := #[{ on := 0, ground := Ground.data }, { on := 2, ground := Ground.data }, { on := 2, ground := Ground.chain }], guard := none }, { dst := some 39, op := Op.unOp UnOp.not 4 (Operand.tmp 38), type := 4, pos := "exact.go:1005", after := #[{ on := 3, ground := Ground.data }], guard := none }] true) Q { tmps := (t0 :: .pointer (some ⟨b, 0, none⟩) :: t2 :: t3 :: t4 :: t5 :: .pointer (some ⟨bx, 0, none⟩) :: t7 :: t8 :: t9 :: t10 :: t11 :: t12 :: t13 :: t14 :: t15 :: t16 :: t17 :: t18 :: t19 :: t20 :: t21 :: t22 :: t23 :: t24 :: t25 :: t26 :: t27 :: t28 :: t29 :: t30 :: t31 :: t32 :: t33 :: t34 :: t35 :: t36 :: t37 :: t38 :: t39 :: []).toArray, defers := [] } W := by
  have HSof : Hid (∀ w', Below W.heap.size W w' → (BxV b hd (.slice a F.len c) w' ∧ BxV bx (hd.to n2) (.slice (some ⟨nb, 0, none⟩) F2.len F2.len) w')) := fun w' h => ⟨hA.below h, hX.below h⟩
  have HI : Hid (∀ w', Below W.heap.size W w' → (F.In w' a ∧ F2.From w' nb 0) ∧ hd.In w' ∧ (hd.to n2).In w') := fun w' h => ⟨⟨hin.grow h, Vo.from_grow h F2 _ _ hF2⟩, hh.grow h, hi2.grow h⟩
  have hS0 := HSof.out _ ((Below.refl _ W).drew)
  clear hA hX hin hF2
  refine wp_region_held_drew (S := fun w' => BxV b hd (.slice a F.len c) w' ∧ BxV bx (hd.to n2) (.slice (some ⟨nb, 0, none⟩) F2.len F2.len) w') (by kernel_rfl) hS0 (fun hHeld => ?_)
  refine wpAnyH_take (i := 0) (v := valV (hd.to n2) (some ⟨nb, 0, none⟩) F2.len F2.len) rfl (by kernel_rfl) (by kernel_rfl) (by kernel_rfl) (fun _ _ _ h => hp _ _ _ _ _ h) (Or.inl ⟨by rfl, ?_⟩) (by assumption) ?_
  · intro w hSw
    (try dsimp only at hSw)
    go_simp
  (try simp only [Act.put, List.getElem_toArray, List.getElem_cons_zero, List.setIfInBounds_toArray, List.set_cons_zero, List.set_cons_succ])
  refine wpAnyH_take (i := 1) (v := valV hd a F.len c) rfl (by kernel_rfl) (by kernel_rfl) (by kernel_rfl) (fun _ _ _ h => hp _ _ _ _ _ h) (Or.inl ⟨by rfl, ?_⟩) (by assumption) ?_
  · intro w hSw
    (try dsimp only at hSw)
    go_simp
  (try simp only [Act.put, List.getElem_toArray, List.getElem_cons_zero, List.getElem_cons_succ, List.setIfInBounds_toArray, List.set_cons_zero, List.set_cons_succ])
  have hB0 := (Below.refl W.heap.size W).drew
  refine wpAnyH_ready (rs := [2]) (by kernel_rfl) (by simp) ?_
  refine AllReadyH.cons rfl (fun K hK => ?_) AllReadyH.nil
  go_simp
  refine (toValue_any hd a c F _ hs hsn (HI.out _ hB0).1.1 hl hc (HI.out _ hB0).2.1).mono ?_
  rintro r w1 ⟨⟨nb1, m1, F1, rfl, ha1, hF1, hi1, _⟩, hb1⟩
  have HI1 : Hid ((hd.to m1).In w1) := hi1
  clear hi1
  have hB1 := hB0.trans (hb1.mono hB0.size)
  go_wp2_with fail
  refine hK.out _ _ (HSof.out _ hB1) (fun hHeld => ?_)
  clear hK K hB0 hb1
  have hl1 : F1.len ≤ maxLen := by rw [Vo.alike_len ha1]; exact Nat.le_trans hl hc
  have hl2 : F2.len ≤ maxLen := by rw [Vo.alike_len ha]; exact Nat.le_trans hl hc
  have ha21 := Vo.alike_trans ha (Vo.alike_sym ha1)
  refine wpAnyH_ready (rs := [3]) (by kernel_rfl) (by simp) ?_
  refine AllReadyH.cons rfl (fun K hK => ?_) AllReadyH.nil
  go_simp
  refine (eqValue_all (F2.size + 1) (hd.to n2) (hd.to m1) (some ⟨nb, 0, none⟩) (some ⟨nb1, 0, none⟩) F2.len F1.len F2 F1 _ (by omega) ha21 ⟨⟨rfl, rfl, rfl, rfl⟩, rfl⟩ (.inr ⟨nb, 0, rfl, (HI.out _ hB1).1.2⟩) (.inr ⟨nb1, 0, rfl, hF1⟩) (HI.out _ hB1).2.2 HI1.out (Nat.le_refl _) hl2 (Nat.le_refl _) hl1).mono ?_
  rintro r w2 ⟨rfl, hb2⟩
  have hB2 := hB1.trans (hb2.mono hB1.size)
  go_wp2_with fail
  refine hK.out _ _ (HSof.out _ hB2) (fun hHeld => ?_)
  clear hK K hb2
  refine wpAnyH_take (i := 4) (v := .bool false) rfl (by kernel_rfl) (by kernel_rfl) (by kernel_rfl) (fun _ _ _ h => hp _ _ _ _ _ h) (Or.inl ⟨by rfl, ?_⟩) (by assumption) ?_
  · intro w hSw
    (try dsimp only at hSw)
    go_simp
  (try simp only [Act.put, List.getElem_toArray, List.getElem_cons_zero, List.getElem_cons_succ, List.setIfInBounds_toArray, List.set_cons_zero, List.set_cons_succ])
  refine wpAnyH_done (by kernel_rfl) ?_ _
  exact h _ _ _ _ _ hB2
set_option maxRecDepth 100000 in
set_option maxHeartbeats 2000000 in
theorem walk_FnExactTomlPut (hd : Hd) (a : Option Addr) (F : Vo) (c : Nat) (w : World) (hh : hd.In w) (hin : F.In w a) (hl : F.len ≤ c) (hc : c ≤ maxLen) :
    Calls Try.prog 5 #[valV hd a F.len c] w fun r w' => r = .returned (.bool true) ∧ Below w.heap.size w w' := by
  have hsw := len_sWt hd.ns
  have hBp : Below w.heap.size w (w.alloc (.cells #[.int .i64 hd.k, .int .i64 hd.m, .int .i64 hd.e, .string hd.t, .slice a F.len c, .slice hd.na hd.ns.length hd.nc] 27)) := (Below.refl _ w).alloc (Nat.le_refl _) _
  have hAp : BxV w.heap.size hd (.slice a F.len c) (w.alloc (.cells #[.int .i64 hd.k, .int .i64 hd.m, .int .i64 hd.e, .string hd.t, .slice a F.len c, .slice hd.na hd.ns.length hd.nc] 27)) := BxV.new w hd (.slice a F.len c) 27
  go_enter Try.func5, Try.ntmps5
  obtain ⟨wp, hwp⟩ : ∃ wp, w.alloc (.cells #[.int .i64 hd.k, .int .i64 hd.m, .int .i64 hd.e, .string hd.t, .slice a F.len c, .slice hd.na hd.ns.length hd.nc] 27) = wp := ⟨_, rfl⟩
  rw [hwp] at hBp hAp
  have HX : Hid (∀ W, Below wp.heap.size wp W → BxV w.heap.size hd (.slice a F.len c) W) := fun W h => hAp.below h
  have HI : Hid (∀ W, Below wp.heap.size wp W → F.In W a ∧ hd.In W) := fun W h => ⟨hin.grow (hBp.trans (h.mono hBp.size)), hh.grow (hBp.trans (h.mono hBp.size))⟩
  have HB : Hid (∀ W, Below wp.heap.size wp W → Below w.heap.size w W) := fun W h => hBp.trans (h.mono hBp.size)
  have hB0 := Below.refl wp.heap.size wp
  have hwp' := hwp.symm
  clear hwp hin hAp hBp hh
  obtain ⟨x0, x1, x2, x3, x4, x5⟩ := HX.out _ hB0
  go_wp2_with fail
  rw [← hwp']
  clear hwp'
  refine (szValue_any hd a c F wp 1048576 (HI.out _ hB0).1 hl hc (HI.out _ hB0).2 (by omega)).mono ?_
  rintro r w1 ⟨rfl, hb1⟩
  have hB1 := hb1
  clear x0 x1 x2 x3 x4 x5
  obtain ⟨x0, x1, x2, x3, x4, x5⟩ := HX.out _ hB1
  clear hb1 hB0
  by_cases hneed : hd.t.size + F.wt + sWt hd.ns ≤ 1048576
  case neg =>
    have hd : leftOf (hd.t.size + F.wt + sWt hd.ns) 1048576 = -1 := by unfold leftOf; rw [if_neg hneed]
    rw [hd]
    go_wp2_with fail
    go_ret
    exact ⟨rfl, HB.out _ hB1⟩
  obtain ⟨d, hd', hdd⟩ : ∃ d : Nat, leftOf (hd.t.size + F.wt + sWt hd.ns) 1048576 = (d : Int) ∧ d ≤ 1048576 := ⟨1048576 - (hd.t.size + F.wt + sWt hd.ns), by unfold leftOf; rw [if_pos hneed], by omega⟩
  rw [hd']
  clear hd'
  have hd0 : ¬ (d : Int) < 0 := by omega
  have hs : F.wt ≤ 1048576 := by omega
  have hsn : hd.ns.length ≤ 1048576 := by omega
  clear hneed
  go_wp2_with fail
  refine (toValue_any hd a c F _ hs hsn (HI.out _ hB1).1 hl hc (HI.out _ hB1).2).mono ?_
  rintro r w2 ⟨⟨nb1, m1, F1, rfl, ha1, hF1, hi1, _⟩, hb2⟩
  have hB2 := hB1.trans (hb2.mono hB1.size)
  have hs1 : F1.size ≤ 1048576 := by rw [Vo.alike_size ha1]; exact Nat.le_trans F.size_wt hs
  have hl1 : F1.len ≤ maxLen := by rw [Vo.alike_len ha1]; exact Nat.le_trans hl hc
  clear x0 x1 x2 x3 x4 x5
  obtain ⟨x0, x1, x2, x3, x4, x5⟩ := HX.out _ hB2
  clear hb2 hB1
  go_wp2_with fail
  refine (sTomlPut_any (hd.to m1) (some ⟨nb1, 0, none⟩) F1.len F1 _ hs1 (.inr ⟨nb1, 0, rfl, hF1⟩) (Nat.le_refl _) hl1 hi1).mono ?_
  rintro r w3 ⟨rfl, hb3⟩
  have hB3 := hB2.trans (hb3.mono hB2.size)
  rw [tput_copy ha1]
  clear x0 x1 x2 x3 x4 x5
  obtain ⟨x0, x1, x2, x3, x4, x5⟩ := HX.out _ hB3
  clear hb3 hB2 hF1 hi1
  go_wp2_with fail
  refine (toValue_any hd a c F _ hs hsn (HI.out _ hB3).1 hl hc (HI.out _ hB3).2).mono ?_
  rintro r w4 ⟨⟨nb, n2, F2, rfl, ha, hF2, hi2, hg⟩, hb4⟩
  have hB4a := hB3.trans (hb4.mono hB3.size)
  have hbx := (Below.refl w4.heap.size w4).alloc (Nat.le_refl _) (.cells #[.int .i64 (hd.to n2).k, .int .i64 (hd.to n2).m, .int .i64 (hd.to n2).e, .string (hd.to n2).t, .slice (some ⟨nb, 0, none⟩) F2.len F2.len, .slice (hd.to n2).na (hd.to n2).ns.length (hd.to n2).nc] 33)
  have hB4 := hB4a.trans (hbx.mono hB4a.size)
  have hX4 := BxV.new w4 (hd.to n2) (.slice (some ⟨nb, 0, none⟩) F2.len F2.len) 33
  have hF4 := Vo.from_grow hbx F2 _ _ hF2
  have HI4 : Hid (Hd.In _ _ ∧ ItV.Good _ _) := ⟨hi2.grow hbx, hg.below hbx⟩
  have hs2 : F2.size ≤ 1048576 := by rw [Vo.alike_size ha]; exact Nat.le_trans F.size_wt hs
  have hl2 : F2.len ≤ maxLen := by rw [Vo.alike_len ha]; exact Nat.le_trans hl hc
  clear x0 x1 x2 x3 x4 x5
  clear hF2 hi2 hg hb4 hB4a hB3 hbx
  go_wp2_with fail
  refine (iTomlPut_any (hd.to n2) (some ⟨nb, 0, none⟩) F2.len F2 _ hs2 (.inr ⟨nb, 0, rfl, hF4⟩) (Nat.le_refl _) hl2 HI4.out.1).mono ?_
  rintro r w5 ⟨rfl, hb5⟩
  have hB5 := hB4.trans (hb5.mono hB4.size)
  have hX5 := hX4.below hb5
  have hF5 := Vo.from_grow hb5 F2 _ _ hF4
  have HI5 : Hid (Hd.In w5 (hd.to n2)) := HI4.out.1.grow hb5
  rw [tput_copy ha]
  clear hX4 hF4 hB4 hb5 HI4
  have hqq : ((tput hd F).1.toList != (tput hd F).1.toList) = false := by simp
  have hqq2 : ((tput hd F).1.toList == (tput hd F).1.toList) = true := by simp
  have hqq3 : ((tput hd F).2 != (tput hd F).2) = false := by simp
  have hqq4 : ((tput hd F).2 == (tput hd F).2) = true := by simp
  go_wp2_with fail
  refine tpl10 (HX.out _ hB5) hX5 (HI.out _ hB5).1 hF5 HI5.out ha hl hc (HI.out _ hB5).2 hs hsn (fun _ d _ _ _ h => by cases d <;> exact h) ?_
  intro w6 v35 v36 v37 v38 hb6
  have hB6 := hB5.trans (hb6.mono hB5.size)
  clear hX5 hF5 hb6 hB5
  go_wp2_with fail
  go_ret
  exact ⟨rfl, HB.out _ hB6⟩
end Go.Proofs.Ytpgpkdeiapeoiaa
