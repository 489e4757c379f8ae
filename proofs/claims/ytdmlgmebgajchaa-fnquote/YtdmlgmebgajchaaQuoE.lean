/- Contracts: getHex, getQuoted. -/
import Derived.Test.YtdmlgmebgajchaaQuoD
import Derived.Test.YtdmlgmebgajchaaIdx
namespace Go.Proofs.Ytdmlgmebgajchaa
open Go.RowKit

set_option maxHeartbeats 2000000 in
theorem getHex_any (s : ByteArray) (w : World) (hs : s.size ≤ 100000000) :
    Calls Try.prog 43 #[.string s] w fun e w' => e = two (Qm.hx (s.data.toList.drop 2)) ∧ w' = w := by
  by_cases h3 : 3 < s.size
  · have j3 : (3 : Int) < s.size := by omega
    have j2 : (2 : Int) < s.size := by omega
    have D2 : s.data.toList.drop 2 = s[2] :: s.data.toList.drop 3 := Qm.drop_at s 2 (by omega)
    have D3 : s.data.toList.drop 3 = s[3] :: s.data.toList.drop 4 := Qm.drop_at s 3 (by omega)
    have R2 : Hid (Qm.hx (s.data.toList.drop 2) = if (0 : Int) ≤ Qm.hexv s[2] ∧ (0 : Int) ≤ Qm.hexv s[3] then (UInt8.ofNat (Qm.hexv s[2] * (16 : Int) + Qm.hexv s[3]).toNat, 4) else (0, 0)) := by unfold Hid; rw [D2, D3, Qm.hx_two]
    clear D2 D3
    obtain ⟨bx1, bx2⟩ := Qm.hexv_le s[2]
    obtain ⟨by1, by2⟩ := Qm.hexv_le s[3]
    by_cases g1 : (0 : Int) ≤ Qm.hexv s[2]
    · have g1' : decide (Qm.hexv s[2] < 0) = false := by simp; omega
      by_cases g2 : (0 : Int) ≤ Qm.hexv s[3]
      · have g2' : decide (Qm.hexv s[3] < 0) = false := by simp; omega
        have BY : Hid (((UInt8.ofNat (Qm.hexv s[2] * (16 : Int) + Qm.hexv s[3]).toNat).toNat : Int) = Qm.hexv s[2] * (16 : Int) + Qm.hexv s[3]) := Qm.byte_of _ _ g1 g2
        have R : Hid (Qm.hx (s.data.toList.drop 2) = (UInt8.ofNat (Qm.hexv s[2] * (16 : Int) + Qm.hexv s[3]).toNat, 4)) := by unfold Hid; rw [R2.out, if_pos ⟨g1, g2⟩]
        clear R2
        go_enter Try.func43, Try.ntmps43
        go_wp2_with (go_at_call 46; refine (hexIndex_any _ _).mono ?_; rintro e w' ⟨rfl, hw⟩; subst w')
        go_ret2
        exact ⟨by rw [R.out]; exact ret_two (by rw [BY.out]) rfl, rfl⟩
      · have g2' : decide (Qm.hexv s[3] < 0) = true := by simp; omega
        have R : Hid (Qm.hx (s.data.toList.drop 2) = (0, 0)) := by unfold Hid; rw [R2.out, if_neg (fun h => g2 h.2)]
        clear R2
        go_enter Try.func43, Try.ntmps43
        go_wp2_with (go_at_call 46; refine (hexIndex_any _ _).mono ?_; rintro e w' ⟨rfl, hw⟩; subst w')
        go_ret2
        exact ⟨by rw [R.out]; rfl, rfl⟩
    · have g1' : decide (Qm.hexv s[2] < 0) = true := by simp; omega
      have R : Hid (Qm.hx (s.data.toList.drop 2) = (0, 0)) := by unfold Hid; rw [R2.out, if_neg (fun h => g1 h.1)]
      clear R2
      go_enter Try.func43, Try.ntmps43
      go_wp2_with (go_at_call 46; refine (hexIndex_any _ _).mono ?_; rintro e w' ⟨rfl, hw⟩; subst w')
      go_ret2
      exact ⟨by rw [R.out]; rfl, rfl⟩
  · have j3 : (s.size : Int) < 4 := by omega
    have R : Hid (Qm.hx (s.data.toList.drop 2) = (0, 0)) := Qm.hx_short _ (by rw [List.length_drop, Qm.len_eq]; omega)
    go_enter Try.func43, Try.ntmps43
    go_wp2_with fail
    go_ret2
    exact ⟨by rw [R.out]; rfl, rfl⟩

set_option maxHeartbeats 4000000 in
theorem getQuoted_any (s : ByteArray) (w : World) (hk : 0 < s.size) (hs : s.size ≤ 100000000) :
    Calls Try.prog 31 #[.string s] w fun e w' => e = two (Qm.nx s.data.toList) ∧ w' = w := by
  have D0 : Hid (s.data.toList = s[0] :: s.data.toList.drop 1) := Qm.drop_at s 0 hk
  have j0 : (0 : Int) < s.size := by omega
  cases hp : Qm.plain s[0].toNat
  · by_cases h92 : s[0] = 92
    · have e92 : ((s[0].toNat : Int) == 92) = true := eq_int h92
      have f92 : ((s[0].toNat : Int) != 92) = false := eq_int' h92
      have H92 : Hid (s[0] = 92) := h92
      clear h92
      by_cases h1 : 1 < s.size
      · have j1 : (1 : Int) < s.size := by omega
        have D1 : Hid (s.data.toList.drop 1 = s[1] :: s.data.toList.drop 2) := Qm.drop_at s 1 h1
        by_cases d1 : s[1] = 110
        · have e1 : ((s[1].toNat : Int) == 110) = true := eq_int d1
          have R : Hid (Qm.nx s.data.toList = (10, 2)) := by unfold Hid; rw [D0.out, D1.out, H92.out, d1]; exact Qm.nx_n _
          clear d1
          go_enter Try.func31, Try.ntmps31
          go_wp2_with (first | (go_at_call 40; refine (standsForItself_any _ _).mono ?_; rintro e w' ⟨rfl, hw⟩; subst w') | (go_at_call 43; refine (getHex_any _ _ hs).mono ?_; rintro e w' ⟨rfl, hw⟩; subst w'))
          go_ret2
          exact ⟨by rw [R.out]; rfl, rfl⟩
        · have e1 : ((s[1].toNat : Int) == 110) = false := ne_int d1
          by_cases d2 : s[1] = 34
          · have e2 : ((s[1].toNat : Int) == 34) = true := eq_int d2
            have R : Hid (Qm.nx s.data.toList = (s[1], 2)) := by unfold Hid; rw [D0.out, D1.out, H92.out]; exact Qm.nx_q _ _ (.inl d2)
            clear d1 d2
            go_enter Try.func31, Try.ntmps31
            go_wp2_with (first | (go_at_call 40; refine (standsForItself_any _ _).mono ?_; rintro e w' ⟨rfl, hw⟩; subst w') | (go_at_call 43; refine (getHex_any _ _ hs).mono ?_; rintro e w' ⟨rfl, hw⟩; subst w'))
            go_ret2
            exact ⟨by rw [R.out]; rfl, rfl⟩
          · have e2 : ((s[1].toNat : Int) == 34) = false := ne_int d2
            by_cases d3 : s[1] = 92
            · have e3 : ((s[1].toNat : Int) == 92) = true := eq_int d3
              have R : Hid (Qm.nx s.data.toList = (s[1], 2)) := by unfold Hid; rw [D0.out, D1.out, H92.out]; exact Qm.nx_q _ _ (.inr d3)
              clear d1 d2 d3
              go_enter Try.func31, Try.ntmps31
              go_wp2_with (first | (go_at_call 40; refine (standsForItself_any _ _).mono ?_; rintro e w' ⟨rfl, hw⟩; subst w') | (go_at_call 43; refine (getHex_any _ _ hs).mono ?_; rintro e w' ⟨rfl, hw⟩; subst w'))
              go_ret2
              exact ⟨by rw [R.out]; rfl, rfl⟩
            · have e3 : ((s[1].toNat : Int) == 92) = false := ne_int d3
              by_cases d4 : s[1] = 120
              · have e4 : ((s[1].toNat : Int) == 120) = true := eq_int d4
                have R : Hid (Qm.nx s.data.toList = Qm.hx (s.data.toList.drop 2)) := by unfold Hid; rw [D0.out, D1.out, H92.out, d4]; exact Qm.nx_x _
                clear d1 d2 d3 d4
                go_enter Try.func31, Try.ntmps31
                go_wp2_with (first | (go_at_call 40; refine (standsForItself_any _ _).mono ?_; rintro e w' ⟨rfl, hw⟩; subst w') | (go_at_call 43; refine (getHex_any _ _ hs).mono ?_; rintro e w' ⟨rfl, hw⟩; subst w'))
                go_ret2
                exact ⟨by rw [R.out]; rfl, rfl⟩
              · have e4 : ((s[1].toNat : Int) == 120) = false := ne_int d4
                have R : Hid (Qm.nx s.data.toList = (0, 0)) := by unfold Hid; rw [D0.out, D1.out, H92.out]; exact Qm.nx_no _ _ d1 d2 d3 d4
                clear d1 d2 d3 d4
                go_enter Try.func31, Try.ntmps31
                go_wp2_with (first | (go_at_call 40; refine (standsForItself_any _ _).mono ?_; rintro e w' ⟨rfl, hw⟩; subst w') | (go_at_call 43; refine (getHex_any _ _ hs).mono ?_; rintro e w' ⟨rfl, hw⟩; subst w'))
                go_ret2
                exact ⟨by rw [R.out]; rfl, rfl⟩
      · have j1 : (s.size : Int) < 2 := by omega
        have R : Hid (Qm.nx s.data.toList = (0, 0)) := by unfold Hid; rw [D0.out, Qm.drop_end s 1 h1, H92.out]; exact Qm.nx_bare
        go_enter Try.func31, Try.ntmps31
        go_wp2_with (first | (go_at_call 40; refine (standsForItself_any _ _).mono ?_; rintro e w' ⟨rfl, hw⟩; subst w') | (go_at_call 43; refine (getHex_any _ _ hs).mono ?_; rintro e w' ⟨rfl, hw⟩; subst w'))
        go_ret2
        exact ⟨by rw [R.out]; rfl, rfl⟩
    · have e92 : ((s[0].toNat : Int) == 92) = false := ne_int h92
      have f92 : ((s[0].toNat : Int) != 92) = true := ne_int' h92
      have R : Hid (Qm.nx s.data.toList = (0, 0)) := by unfold Hid; rw [D0.out]; exact Qm.nx_other _ _ hp h92
      clear h92
      go_enter Try.func31, Try.ntmps31
      go_wp2_with (first | (go_at_call 40; refine (standsForItself_any _ _).mono ?_; rintro e w' ⟨rfl, hw⟩; subst w') | (go_at_call 43; refine (getHex_any _ _ hs).mono ?_; rintro e w' ⟨rfl, hw⟩; subst w'))
      go_ret2
      exact ⟨by rw [R.out]; rfl, rfl⟩
  · have n92 : s[0] ≠ 92 := by intro h; rw [h] at hp; exact absurd hp (by decide)
    have e92 : ((s[0].toNat : Int) == 92) = false := ne_int n92
    have f92 : ((s[0].toNat : Int) != 92) = true := ne_int' n92
    clear n92
    have R : Hid (Qm.nx s.data.toList = (s[0], 1)) := by unfold Hid; rw [D0.out]; exact Qm.nx_plain _ _ hp
    go_enter Try.func31, Try.ntmps31
    go_wp2_with (first | (go_at_call 40; refine (standsForItself_any _ _).mono ?_; rintro e w' ⟨rfl, hw⟩; subst w') | (go_at_call 43; refine (getHex_any _ _ hs).mono ?_; rintro e w' ⟨rfl, hw⟩; subst w'))
    go_ret2
    exact ⟨by rw [R.out]; rfl, rfl⟩
end Go.Proofs.Ytdmlgmebgajchaa
