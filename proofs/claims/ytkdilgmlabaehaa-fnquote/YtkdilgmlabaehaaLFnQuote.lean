/- The law FnQuote walked. -/
import Derived.Test.YtkdilgmlabaehaaDrawQ
import Derived.Test.YtkdilgmlabaehaaQr
namespace Go.Proofs.Ytkdilgmlabaehaa
open Go.RowKit

theorem sres_some (s : ByteArray) : sres (some s.data.toList) = .returned (.tuple #[.string s, .bool true]) := by
  show Ending.returned (.tuple #[.string ⟨s.data.toList.toArray⟩, .bool true]) = _
  rw [arr_back]
theorem quote_size (s : ByteArray) (h : s.size ≤ 1000000) : (⟨(Qm.quote s.data.toList).toArray⟩ : ByteArray).size ≤ 90000000 := by
  rw [arr_size]; unfold Qm.quote
  have := Qm.flat_length s.data.toList
  rw [Qm.len_eq] at this
  rw [List.length_cons, List.length_append]; simp only [List.length_singleton]; omega
theorem iQuote_back (s : ByteArray) (w : World) (h : s.size ≤ 1000000) :
    Calls Try.prog 10 #[.string ⟨(Qm.quote s.data.toList).toArray⟩] w fun e w' => e = .returned (.tuple #[.string s, .bool true]) ∧ Below w.heap.size w w' := by
  refine (iQuoteGet_any _ w (quote_size s h)).mono ?_
  rintro e w' ⟨rfl, hb⟩
  refine ⟨?_, hb⟩
  rw [← sres_some]
  show sres (Qm.qget (Qm.quote s.data.toList)) = _
  rw [Qm.qget_quote]

set_option maxHeartbeats 2000000 in
theorem walk_FnQuote (a : Option Addr) (len cap : Nat) (zs : List Int) (a2 : Option Addr) (len2 cap2 : Nat) (zs2 : List Int) (w : World) (hz : IsRow .u8 w a len cap zs) (hz2 : IsRow .u8 w a2 len2 cap2 zs2) :
    Calls Try.prog 5 #[.slice a len cap, .slice a2 len2 cap2] w fun e w' => e = .returned (.bool true) ∧ Below w.heap.size w w' := by
  have hc := codeIn_of hz
  have hc2 := codeIn_of hz2
  clear hz hz2
  have hm : cap ≤ maxLen := hc.2.2.1
  have hlc : len ≤ cap := hc.2.1
  have hm2 : cap2 ≤ maxLen := hc2.2.2.1
  have hlc2 : len2 ≤ cap2 := hc2.2.1
  unfold maxLen at hm hm2
  by_cases h : len ≤ 1048576
  · have h' : decide (1048576 < (len : Int)) = false := by simp; omega
    by_cases h2 : len2 ≤ 1048576
    · have h2' : decide (1048576 < (len2 : Int)) = false := by simp; omega
      go_enter Try.func5, Try.ntmps5
      go_wp2_with fail
      refine (drawQuotePut_any w a len cap hc).mono ?_
      rintro e w1 ⟨⟨s, rfl, hs⟩, hb1⟩
      go_wp2_with fail
      refine (iQuotePut_any s _ (by omega)).mono ?_
      rintro e w2 ⟨rfl, hb2⟩
      go_wp2_with fail
      refine (iQuote_back s _ (by omega)).mono ?_
      rintro e w3 ⟨rfl, hb3⟩
      generalize hq : (⟨(Qm.quote s.data.toList).toArray⟩ : ByteArray) = q
      go_wp2_with fail
      refine (sQuotePut_any s _ (by omega)).mono ?_
      rintro e w4 ⟨rfl, hb4⟩
      rw [hq]
      have hB4 : Below w.heap.size w w4 := ((hb1.trans (hb2.mono hb1.size)).trans (hb3.mono (Nat.le_trans hb1.size hb2.size))).trans (hb4.mono (Nat.le_trans (Nat.le_trans hb1.size hb2.size) hb3.size))
      clear hb1 hb2 hb3 hb4 hq
      have hqq : (q.toList != q.toList) = false := by simp
      have hss : (s.toList != s.toList) = false := by simp
      go_wp2_with fail
      refine (drawQuoteGet_any w4 a2 len2 cap2 (hc2.below hB4)).mono ?_
      rintro e w5 ⟨⟨t, rfl, ht⟩, hb5⟩
      go_wp2_with fail
      refine (iQuoteGet_any t _ (by omega)).mono ?_
      rintro e w6 ⟨rfl, hb6⟩
      have hB5 := hB4.trans (hb5.mono hB4.size)
      have hB6 := hB5.trans (hb6.mono hB5.size)
      clear hb5 hb6 hB5 hqq hss
      cases hr : Qm.qget t.data.toList with
      | none =>
        have es : sres none = .returned (.tuple #[.string ⟨#[]⟩, .bool false]) := rfl
        rw [es]
        go_wp2_with fail
        refine (sQuoteGet_any t _ (by omega)).mono ?_
        rintro e w7 ⟨rfl, hb7⟩
        rw [hr, es]
        have hB7 := hB6.trans (hb7.mono hB6.size)
        go_wp2_with fail
        go_ret
        exact ⟨rfl, hB7⟩
      | some r =>
        have hrl := Qm.qget_length _ _ hr
        rw [Qm.len_eq] at hrl
        obtain ⟨y, hy⟩ : ∃ y : ByteArray, y = ⟨r.toArray⟩ := ⟨_, rfl⟩
        have hyl : y.data.toList = r := by rw [hy]
        have hys : y.size ≤ 1000 := by rw [← Qm.len_eq, hyl]; omega
        have es : sres (some r) = .returned (.tuple #[.string y, .bool true]) := by rw [hy]; rfl
        rw [es]
        have ES : Hid (sres (some r) = .returned (.tuple #[.string y, .bool true])) := es
        have HR : Hid (Qm.qget t.data.toList = some r) := hr
        clear es hy hyl hr hrl
        have hyy : (y.toList != y.toList) = false := by simp
        have hyz : (y.toList == y.toList) = true := by simp
        go_wp2_with fail
        refine (sQuoteGet_any t _ (by omega)).mono ?_
        rintro e w7 ⟨rfl, hb7⟩
        rw [HR.out, ES.out]
        have hB7 := hB6.trans (hb7.mono hB6.size)
        go_wp2_with fail
        refine (iQuotePut_any y _ (by omega)).mono ?_
        rintro e w8 ⟨rfl, hb8⟩
        have hB8 := hB7.trans (hb8.mono hB7.size)
        go_wp2_with fail
        refine (iQuote_back y _ (by omega)).mono ?_
        rintro e w9 ⟨rfl, hb9⟩
        have hB9 := hB8.trans (hb9.mono hB8.size)
        generalize (⟨(Qm.quote y.data.toList).toArray⟩ : ByteArray) = q
        go_wp2_with fail
        go_ret
        exact ⟨rfl, hB9⟩
    · have h2' : decide (1048576 < (len2 : Int)) = true := by simp; omega
      go_enter Try.func5, Try.ntmps5
      go_wp2_with fail
      go_ret
      exact ⟨rfl, Below.refl _ _⟩
  · have h' : decide (1048576 < (len : Int)) = true := by simp; omega
    go_enter Try.func5, Try.ntmps5
    go_wp2_with fail
    go_ret
    exact ⟨rfl, Below.refl _ _⟩
end Go.Proofs.Ytkdilgmlabaehaa
