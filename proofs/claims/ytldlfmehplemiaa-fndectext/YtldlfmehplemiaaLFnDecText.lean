/- The law FnDecText walked. -/
import Derived.Test.YtldlfmehplemiaaDraw6
import Derived.Test.YtldlfmehplemiaaReadC
import Derived.Test.YtldlfmehplemiaaTxtD
namespace Go.Proofs.Ytldlfmehplemiaa
open Go.RowKit
attribute [local go_sem] cell_alloc_is frozen_alloc_is

/-- what is to be known of a drawn text -/
def ReadsBack (s : ByteArray) : Prop := s.size ≤ 1000 ∧ (Rm.read s.data.toList = (0, 0, false) ∨ ∃ m x, Rm.read s.data.toList = (m, x, true) ∧ Dm.ok m x = true ∧ (Tm.text m x).length ≤ s.size)
def readsBackB (s : ByteArray) : Bool := decide (s.data.toList.length ≤ 1000) && (decide (Rm.read s.data.toList = (0, 0, false)) || ((Rm.read s.data.toList).2.2 && (Dm.ok (Rm.read s.data.toList).1 (Rm.read s.data.toList).2.1 && decide ((Tm.text (Rm.read s.data.toList).1 (Rm.read s.data.toList).2.1).length ≤ s.data.toList.length))))
theorem readsBack_of {s : ByteArray} (h : readsBackB s = true) : ReadsBack s := by
  unfold readsBackB at h
  rw [tLen] at h
  rw [Bool.and_eq_true, Bool.or_eq_true, Bool.and_eq_true, Bool.and_eq_true, decide_eq_true_eq, decide_eq_true_eq, decide_eq_true_eq] at h
  refine ⟨h.1, ?_⟩
  rcases h.2 with h2 | ⟨h2, h3, h4⟩
  · exact .inl h2
  · refine .inr ⟨_, _, ?_, h3, h4⟩
    rw [← h2]
theorem readsBack_list : ∀ s ∈ drawnTexts, readsBackB s = true := by decide +kernel
theorem readsBack_drawn {s : ByteArray} (h : DrawnText s) : ReadsBack s := by
  rcases h with ⟨m, x, ho, rfl⟩ | h
  · obtain ⟨_, _, x1, x2⟩ := Dm.ok_bd ho
    have hl := Tr.text_len (m := m) x1 x2
    refine ⟨by rw [tArr_size]; omega, .inr ⟨m, x, ?_, ho, by rw [tArr_size]; exact Nat.le_refl _⟩⟩
    exact Tr.read_text ho
  · exact readsBack_of (readsBack_list s h)
theorem textOf_ok {m x : Int} (h : Dm.ok m x = true) : textOf m x = Tm.text m x := by unfold textOf; rw [if_pos h]
theorem textOf_no {m x : Int} (h : Dm.ok m x = false) : textOf m x = [] := by unfold textOf; rw [h]; rfl
/-- a number's text, as a string: it is not empty, short, and read back -/
theorem text_str {m x : Int} (h : Dm.ok m x = true) : ∃ s : ByteArray, (⟨(textOf m x).toArray⟩ : ByteArray) = s ∧ s.size ≤ 1000 ∧ s.toList.isEmpty = false ∧ s.size = (Tm.text m x).length ∧ Rm.read s.data.toList = (m, x, true) := by
  obtain ⟨_, _, x1, x2⟩ := Dm.ok_bd h
  have hl := Tr.text_len (m := m) x1 x2
  refine ⟨_, rfl, ?_, ?_, ?_, ?_⟩
  · rw [textOf_ok h, tArr_size]; omega
  · rw [textOf_ok h]
    have hn := Tr.text_ne m x
    rw [ByteArray.toList_eq]
    show (Tm.text m x).isEmpty = false
    cases hh : Tm.text m x with
    | nil => exact absurd hh hn
    | cons c t => rfl
  · rw [textOf_ok h, tArr_size]
  · rw [textOf_ok h]; exact Tr.read_text h

set_option maxHeartbeats 4000000 in
theorem walk_FnDecText (a : Option Addr) (len cap : Nat) (zs : List Int) (a2 : Option Addr) (len2 cap2 : Nat) (zs2 : List Int) (w : World) (hz : IsRow .u8 w a len cap zs) (hz2 : IsRow .u8 w a2 len2 cap2 zs2) :
    Calls Try.prog 5 #[.slice a len cap, .slice a2 len2 cap2] w fun e w' => e = .returned (.bool true) ∧ Below w.heap.size w w' := by
  have hc := codeIn_of hz
  have hc2 := codeIn_of hz2
  clear hz hz2
  have hm : cap ≤ maxLen := hc.2.2.1
  have hlc : len ≤ cap := hc.2.1
  have hm2 : cap2 ≤ maxLen := hc2.2.2.1
  have hlc2 : len2 ≤ cap2 := hc2.2.1
  unfold maxLen at hm hm2
  by_cases h : len ≤ 1048576
  · have h' : decide (1048576 < (len : Int)) = false := by simp; omega
    by_cases h2 : len2 ≤ 1048576
    · have h2' : decide (1048576 < (len2 : Int)) = false := by simp; omega
      go_enter Try.func5, Try.ntmps5
      go_wp2_with fail
      refine (drawDecText_any w a len cap hc).mono ?_
      rintro e w1 ⟨⟨m, x, rfl⟩, hb1⟩
      clear hc
      have T1 := Two.new w1 m x 25
      go_wp2_with fail
      refine (iDecText_any m x _).mono ?_
      rintro e w2 ⟨rfl, hb2⟩
      have T2 := T1.below hb2 (by simp)
      have hB2 : Below w.heap.size w w2 := (hb1.alloc hb1.size _).trans (hb2.mono (by have := hb1.size; simp; omega))
      have hl2 : w1.heap.size < w2.heap.size := by have := hb2.size; simp at this; omega
      have hl1 := hb1.size
      clear T1 hb1 hb2
      cases ho : Dm.ok m x
      · have HT : Hid (textOf m x = []) := textOf_no ho
        rw [HT.out]
        clear ho
        obtain ⟨c0, c1, f0, f1⟩ := T2
        go_wp2_with fail
        refine (sDecText_any m x _).mono ?_
        rintro e w3 ⟨rfl, hb3⟩
        rw [HT.out]
        have hB3 := hB2.trans (hb3.mono hB2.size)
        clear HT c0 c1 f0 f1 hb3
        go_wp2_with fail
        refine (drawDecRead_any w3 a2 len2 cap2 (hc2.below hB3)).mono ?_
        rintro e w6 ⟨⟨t, rfl, ht⟩, hb6⟩
        have hB6 := Below.trans hB3 (hb6.mono (Below.size hB3))
        obtain ⟨ht1, ht2⟩ := readsBack_drawn ht
        clear hb6 ht hB3
        go_wp2_with fail
        refine (iDecRead_any t _ (by omega)).mono ?_
        rintro e w7 ⟨rfl, hb7⟩
        have hB7 := hB6.trans (hb7.mono hB6.size)
        clear hb7
        rcases ht2 with hr | ⟨n, y, hr, hok, hlen⟩
        · rw [hr]
          have HR : Hid (Rm.read t.data.toList = (0, 0, false)) := hr
          clear hr
          go_wp2_with fail
          refine (sDecRead_any t _ (by omega)).mono ?_
          rintro e w8 ⟨rfl, hb8⟩
          rw [HR.out]
          have T8 := (Two.new w7 0 0 25).below hb8 (by simp)
          have hB8 : Below w.heap.size w w8 := (hB7.alloc hB7.size _).trans (hb8.mono (by have := hB7.size; simp; omega))
          have hl8 : w7.heap.size < w8.heap.size := by have := hb8.size; simp at this; omega
          clear hb8 HR
          obtain ⟨c0, c1, f0, f1⟩ := T8
          go_wp2_with fail
          go_ret
          exact ⟨rfl, hB8.alloc hB8.size _⟩
        · rw [hr]
          have HR : Hid (Rm.read t.data.toList = (n, y, true)) := hr
          clear hr
          go_wp2_with fail
          refine (sDecRead_any t _ (by omega)).mono ?_
          rintro e w8 ⟨rfl, hb8⟩
          rw [HR.out]
          have T8 := (Two.new w7 n y 25).below hb8 (by simp)
          have hB8 : Below w.heap.size w w8 := (hB7.alloc hB7.size _).trans (hb8.mono (by have := hB7.size; simp; omega))
          have hl8 : w7.heap.size < w8.heap.size := by have := hb8.size; simp at this; omega
          clear hb8 HR
          have T8' := T8.alloc hl8 (.cells #[.int .i64 n, .int .i64 y] 25)
          obtain ⟨u, hu, u1, u2, u3, u4⟩ := text_str hok
          have HU : Hid ((⟨(textOf n y).toArray⟩ : ByteArray) = u) := hu
          have H4 : Hid (Rm.read u.data.toList = (n, y, true)) := u4
          have hul : decide (u.size ≤ t.size) = true := by simp; omega
          clear hu u4 hok hlen u2 u3
          obtain ⟨c0, c1, f0, f1⟩ := T8
          go_wp2_with fail
          refine (iDecText_any n y _).mono ?_
          rintro e w9 ⟨rfl, hb9⟩
          rw [HU.out]
          have T9 := T8'.below hb9 (by simp; omega)
          have hB9 : Below w.heap.size w w9 := (hB8.alloc hB8.size _).trans (hb9.mono (by have := hB8.size; simp; omega))
          have hl9 : w7.heap.size < w9.heap.size := by have := hb9.size; simp at this; omega
          clear hb9 c0 c1 f0 f1 T8'
          go_wp2_with fail
          refine (iDecRead_any u _ (by omega)).mono ?_
          rintro e w10 ⟨rfl, hb10⟩
          rw [H4.out]
          have T10 := T9.below hb10 hl9
          have hB10 : Below w.heap.size w w10 := hB9.trans (hb10.mono hB9.size)
          have hl10 : w7.heap.size < w10.heap.size := Nat.lt_of_lt_of_le hl9 hb10.size
          clear hb10 T9 H4
          obtain ⟨c0, c1, f0, f1⟩ := T10
          go_wp2_with fail
          refine (iDecText_any n y _).mono ?_
          rintro e w11 ⟨rfl, hb11⟩
          rw [HU.out]
          have hB11 : Below w.heap.size w w11 := (hB10.alloc hB10.size _).trans (hb11.mono (by have := hB10.size; simp; omega))
          clear hb11 c0 c1 f0 f1
          go_wp2_with fail
          go_ret
          exact ⟨rfl, hB11⟩
      · obtain ⟨s, hs, s1, s2, s3, s4⟩ := text_str ho
        rw [hs]
        have HS : Hid ((⟨(textOf m x).toArray⟩ : ByteArray) = s) := hs
        have H4 : Hid (Rm.read s.data.toList = (m, x, true)) := s4
        clear ho hs s3 s4
        obtain ⟨c0, c1, f0, f1⟩ := id T2
        have hss : (s.toList != s.toList) = false := by simp
        go_wp2_with fail
        refine (sDecText_any m x _).mono ?_
        rintro e w3 ⟨rfl, hb3⟩
        rw [HS.out]
        have hB3 := hB2.trans (hb3.mono hB2.size)
        clear c0 c1 f0 f1
        have T3 := T2.below hb3 hl2
        have hl3 : w1.heap.size < w3.heap.size := Nat.lt_of_lt_of_le hl2 hb3.size
        clear T2 hb3
        obtain ⟨c0, c1, f0, f1⟩ := id T3
        go_wp2_with fail
        refine (iDecRead_any s _ (by omega)).mono ?_
        rintro e w4 ⟨rfl, hb4⟩
        rw [H4.out]
        have hB4 := hB3.trans (hb4.mono hB3.size)
        have T4 := T3.below hb4 hl3
        have hl4 : w1.heap.size < w4.heap.size := Nat.lt_of_lt_of_le hl3 hb4.size
        clear T3 hb4 c0 c1 f0 f1 H4 HS
        obtain ⟨c0, c1, f0, f1⟩ := T4
        go_wp2_with fail
        obtain ⟨w5, hw5⟩ : ∃ w5, w5 = w4.alloc (.cells #[.int .i64 m, .int .i64 x] 25) := ⟨_, rfl⟩
        have hB5 : Below w.heap.size w w5 := by rw [hw5]; exact hB4.alloc hB4.size _
        rw [← hw5]
        clear hw5 c0 c1 f0 f1
        refine (drawDecRead_any w5 a2 len2 cap2 (hc2.below hB5)).mono ?_
        rintro e w6 ⟨⟨t, rfl, ht⟩, hb6⟩
        have hB6 := Below.trans hB5 (hb6.mono (Below.size hB5))
        obtain ⟨ht1, ht2⟩ := readsBack_drawn ht
        clear hb6 ht hB5
        go_wp2_with fail
        refine (iDecRead_any t _ (by omega)).mono ?_
        rintro e w7 ⟨rfl, hb7⟩
        have hB7 := hB6.trans (hb7.mono hB6.size)
        clear hb7
        rcases ht2 with hr | ⟨n, y, hr, hok, hlen⟩
        · rw [hr]
          have HR : Hid (Rm.read t.data.toList = (0, 0, false)) := hr
          clear hr
          go_wp2_with fail
          refine (sDecRead_any t _ (by omega)).mono ?_
          rintro e w8 ⟨rfl, hb8⟩
          rw [HR.out]
          have T8 := (Two.new w7 0 0 25).below hb8 (by simp)
          have hB8 : Below w.heap.size w w8 := (hB7.alloc hB7.size _).trans (hb8.mono (by have := hB7.size; simp; omega))
          have hl8 : w7.heap.size < w8.heap.size := by have := hb8.size; simp at this; omega
          clear hb8 HR
          obtain ⟨c0, c1, f0, f1⟩ := T8
          go_wp2_with fail
          go_ret
          exact ⟨rfl, hB8.alloc hB8.size _⟩
        · rw [hr]
          have HR : Hid (Rm.read t.data.toList = (n, y, true)) := hr
          clear hr
          go_wp2_with fail
          refine (sDecRead_any t _ (by omega)).mono ?_
          rintro e w8 ⟨rfl, hb8⟩
          rw [HR.out]
          have T8 := (Two.new w7 n y 25).below hb8 (by simp)
          have hB8 : Below w.heap.size w w8 := (hB7.alloc hB7.size _).trans (hb8.mono (by have := hB7.size; simp; omega))
          have hl8 : w7.heap.size < w8.heap.size := by have := hb8.size; simp at this; omega
          clear hb8 HR
          have T8' := T8.alloc hl8 (.cells #[.int .i64 n, .int .i64 y] 25)
          obtain ⟨u, hu, u1, u2, u3, u4⟩ := text_str hok
          have HU : Hid ((⟨(textOf n y).toArray⟩ : ByteArray) = u) := hu
          have H4 : Hid (Rm.read u.data.toList = (n, y, true)) := u4
          have hul : decide (u.size ≤ t.size) = true := by simp; omega
          clear hu u4 hok hlen u2 u3
          obtain ⟨c0, c1, f0, f1⟩ := T8
          go_wp2_with fail
          refine (iDecText_any n y _).mono ?_
          rintro e w9 ⟨rfl, hb9⟩
          rw [HU.out]
          have T9 := T8'.below hb9 (by simp; omega)
          have hB9 : Below w.heap.size w w9 := (hB8.alloc hB8.size _).trans (hb9.mono (by have := hB8.size; simp; omega))
          have hl9 : w7.heap.size < w9.heap.size := by have := hb9.size; simp at this; omega
          clear hb9 c0 c1 f0 f1 T8'
          go_wp2_with fail
          refine (iDecRead_any u _ (by omega)).mono ?_
          rintro e w10 ⟨rfl, hb10⟩
          rw [H4.out]
          have T10 := T9.below hb10 hl9
          have hB10 : Below w.heap.size w w10 := hB9.trans (hb10.mono hB9.size)
          have hl10 : w7.heap.size < w10.heap.size := Nat.lt_of_lt_of_le hl9 hb10.size
          clear hb10 T9 H4
          obtain ⟨c0, c1, f0, f1⟩ := T10
          go_wp2_with fail
          refine (iDecText_any n y _).mono ?_
          rintro e w11 ⟨rfl, hb11⟩
          rw [HU.out]
          have hB11 : Below w.heap.size w w11 := (hB10.alloc hB10.size _).trans (hb11.mono (by have := hB10.size; simp; omega))
          clear hb11 c0 c1 f0 f1
          go_wp2_with fail
          go_ret
          exact ⟨rfl, hB11⟩
    · have h2' : decide (1048576 < (len2 : Int)) = true := by simp; omega
      go_enter Try.func5, Try.ntmps5
      go_wp2_with fail
      go_ret
      exact ⟨rfl, Below.refl _ _⟩
  · have h' : decide (1048576 < (len : Int)) = true := by simp; omega
    go_enter Try.func5, Try.ntmps5
    go_wp2_with fail
    go_ret
    exact ⟨rfl, Below.refl _ _⟩
end Go.Proofs.Ytldlfmehplemiaa
