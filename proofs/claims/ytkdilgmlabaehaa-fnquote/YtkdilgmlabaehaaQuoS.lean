/- Contracts: prefixes; a byte of two figures; the byte that a text begins with, of the program. -/
import Derived.Test.YtkdilgmlabaehaaQuoP
import Derived.Test.YtkdilgmlabaehaaQuoD
import Derived.Test.YtkdilgmlabaehaaQh
namespace Go.Proofs.Ytkdilgmlabaehaa
open Go.RowKit
/-- one text is the beginning of another one -/
def pre (s p : ByteArray) : Bool := decide (p.size ≤ s.size) && ((s.extract 0 p.size).toList == p.toList)
set_option maxHeartbeats 400000 in
theorem litePrefix_any (s p : ByteArray) (w : World) :
    Calls Try.prog 53 #[.string s, .string p] w fun e w' => e = .returned (.bool (pre s p)) ∧ w' = w := by
  by_cases h : p.size ≤ s.size
  · have h' : (p.size : Int) ≤ (s.size : Int) := by omega
    have HP : Hid (pre s p = ((s.extract 0 p.size).toList == p.toList)) := by unfold Hid pre; rw [decide_eq_true h]; rfl
    go_enter Try.func53, Try.ntmps53
    go_wp2_with fail
    go_ret
    exact ⟨by rw [HP.out]; rfl, rfl⟩
  · have h' : ¬ (p.size : Int) ≤ (s.size : Int) := by omega
    have HP : Hid (pre s p = false) := by unfold Hid pre; rw [decide_eq_false h]; rfl
    go_enter Try.func53, Try.ntmps53
    go_wp2_with fail
    go_ret
    exact ⟨by rw [HP.out]; rfl, rfl⟩
set_option maxHeartbeats 400000 in
theorem hasPrefix_any (s p : ByteArray) (w : World) :
    Calls Try.prog 38 #[.string s, .string p] w fun e w' => e = .returned (.bool (pre s p)) ∧ w' = w := by
  go_enter Try.func38, Try.ntmps38
  go_wp2_with fail
  refine (litePrefix_any s p _).mono ?_
  rintro e w' ⟨rfl, hw⟩
  subst w'
  go_wp2_with fail
  go_ret
  exact ⟨rfl, rfl⟩
set_option maxHeartbeats 400000 in
theorem liteCut_any (s p : ByteArray) (w : World) :
    Calls Try.prog 61 #[.string s, .string p] w fun e w' => e = .returned (.tuple #[.string (if pre s p then s.extract p.size s.size else s), .bool (pre s p)]) ∧ w' = w := by
  have HL : Hid (pre s p = true → p.size ≤ s.size) := by unfold Hid pre; intro h; simp only [Bool.and_eq_true, decide_eq_true_eq] at h; exact h.1
  have HP := litePrefix_any s p w
  generalize pre s p = q at *
  cases q
  · go_enter Try.func61, Try.ntmps61
    go_wp2_with fail
    refine HP.mono ?_
    rintro e w' ⟨rfl, hw⟩
    subst w'
    go_wp2_with fail
    go_ret2
    exact ⟨rfl, rfl⟩
  · have h := HL.out rfl
    have h' : (p.size : Int) ≤ (s.size : Int) := by omega
    go_enter Try.func61, Try.ntmps61
    go_wp2_with fail
    refine HP.mono ?_
    rintro e w' ⟨rfl, hw⟩
    subst w'
    go_wp2_with fail
    go_ret2
    exact ⟨rfl, rfl⟩
set_option maxHeartbeats 400000 in
theorem cutPrefix_any (s p : ByteArray) (w : World) :
    Calls Try.prog 54 #[.string s, .string p] w fun e w' => e = .returned (.tuple #[.string (if pre s p then s.extract p.size s.size else s), .bool (pre s p)]) ∧ w' = w := by
  have HP := liteCut_any s p w
  generalize (if pre s p then s.extract p.size s.size else s) = x at *
  generalize pre s p = q at *
  go_enter Try.func54, Try.ntmps54
  go_wp2_with fail
  refine HP.mono ?_
  rintro e w' ⟨rfl, hw⟩
  subst w'
  go_wp2_with fail
  go_ret2
  exact ⟨rfl, rfl⟩
/-- a byte and a truth, as a call hands them back -/
abbrev byteOk (r : UInt8 × Nat) : Ending := .returned (.tuple #[.int .u8 r.1.toNat, .bool (decide (r.2 ≠ 0))])
set_option maxHeartbeats 2000000 in
theorem hexByte_any (s : ByteArray) (w : World) (hs : s.size ≤ 100000000) :
    Calls Try.prog 55 #[.string s] w fun e w' => e = byteOk (Qm.hx s.data.toList) ∧ w' = w := by
  by_cases h3 : 1 < s.size
  · have j3 : (1 : Int) < s.size := by omega
    have j2 : (0 : Int) < s.size := by omega
    have j4 : ¬ (s.size : Int) < 2 := by omega
    have D2 : s.data.toList = s[0] :: s.data.toList.drop 1 := Qm.drop_at s 0 (by omega)
    have D3 : s.data.toList.drop 1 = s[1] :: s.data.toList.drop 2 := Qm.drop_at s 1 (by omega)
    have R2 : Hid (Qm.hx s.data.toList = if (0 : Int) ≤ Qm.hexv s[0] ∧ (0 : Int) ≤ Qm.hexv s[1] then (UInt8.ofNat (Qm.hexv s[0] * (16 : Int) + Qm.hexv s[1]).toNat, 4) else (0, 0)) := by unfold Hid; rw [D2, D3, Qm.hx_two]
    clear D2 D3
    obtain ⟨bx1, bx2⟩ := Qm.hexv_le s[0]
    obtain ⟨by1, by2⟩ := Qm.hexv_le s[1]
    by_cases g1 : (0 : Int) ≤ Qm.hexv s[0]
    · have g1' : decide (Qm.hexv s[0] < 0) = false := by simp; omega
      by_cases g2 : (0 : Int) ≤ Qm.hexv s[1]
      · have g2' : decide (Qm.hexv s[1] < 0) = false := by simp; omega
        have BY : Hid (((UInt8.ofNat (Qm.hexv s[0] * (16 : Int) + Qm.hexv s[1]).toNat).toNat : Int) = Qm.hexv s[0] * (16 : Int) + Qm.hexv s[1]) := Qm.byte_of _ _ g1 g2
        have R : Hid (Qm.hx s.data.toList = (UInt8.ofNat (Qm.hexv s[0] * (16 : Int) + Qm.hexv s[1]).toNat, 4)) := by unfold Hid; rw [R2.out, if_pos ⟨g1, g2⟩]
        clear R2
        go_enter Try.func55, Try.ntmps55
        go_wp2_with (go_at_call 50; refine (hexIndex_any _ _).mono ?_; rintro e w' ⟨rfl, hw⟩; subst w')
        go_ret2
        exact ⟨by rw [R.out]; show _ = Ending.returned (.tuple #[.int .u8 _, .bool true]); rw [BY.out]; rfl, rfl⟩
      · have g2' : decide (Qm.hexv s[1] < 0) = true := by simp; omega
        have R : Hid (Qm.hx s.data.toList = (0, 0)) := by unfold Hid; rw [R2.out, if_neg (fun h => g2 h.2)]
        clear R2
        go_enter Try.func55, Try.ntmps55
        go_wp2_with (go_at_call 50; refine (hexIndex_any _ _).mono ?_; rintro e w' ⟨rfl, hw⟩; subst w')
        go_ret2
        exact ⟨by rw [R.out]; rfl, rfl⟩
    · have g1' : decide (Qm.hexv s[0] < 0) = true := by simp; omega
      have R : Hid (Qm.hx s.data.toList = (0, 0)) := by unfold Hid; rw [R2.out, if_neg (fun h => g1 h.1)]
      clear R2
      go_enter Try.func55, Try.ntmps55
      go_wp2_with (go_at_call 50; refine (hexIndex_any _ _).mono ?_; rintro e w' ⟨rfl, hw⟩; subst w')
      go_ret2
      exact ⟨by rw [R.out]; rfl, rfl⟩
  · have j3 : (s.size : Int) < 2 := by omega
    have R : Hid (Qm.hx s.data.toList = (0, 0)) := Qm.hx_short _ (by rw [Qm.len_eq]; omega)
    go_enter Try.func55, Try.ntmps55
    go_wp2_with fail
    go_ret2
    exact ⟨by rw [R.out]; rfl, rfl⟩
end Go.Proofs.Ytkdilgmlabaehaa
