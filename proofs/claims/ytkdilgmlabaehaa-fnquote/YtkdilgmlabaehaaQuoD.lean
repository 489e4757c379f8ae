/- Contracts: l2Next, getHex, getQuoted. -/
import Derived.Test.YtkdilgmlabaehaaQuoC
import Derived.Test.YtkdilgmlabaehaaBld
import Derived.Shelf.Small.Strs
namespace Go.Proofs.Ytkdilgmlabaehaa
open Go.RowKit Go.Shelf

theorem ne_int {b c : UInt8} (h : b ≠ c) : ((b.toNat : Int) == (c.toNat : Int)) = false := by
  rw [beq_eq_false_iff_ne]; intro e; exact h (UInt8.toNat_inj.1 (by omega))
theorem eq_int {b c : UInt8} (h : b = c) : ((b.toNat : Int) == (c.toNat : Int)) = true := by rw [h]; simp
theorem ne_int' {b c : UInt8} (h : b ≠ c) : ((b.toNat : Int) != (c.toNat : Int)) = true := by rw [bne, ne_int h]; rfl
theorem eq_int' {b c : UInt8} (h : b = c) : ((b.toNat : Int) != (c.toNat : Int)) = false := by rw [bne, eq_int h]; rfl

set_option maxHeartbeats 4000000 in
theorem l2Next_any (s : ByteArray) (k : Nat) (w : World) (hk : k < s.size) (hs : s.size ≤ 100000000) :
    Calls Try.prog 21 #[.string s, .int .i64 k] w fun e w' => e = two (Qm.nx (s.data.toList.drop k)) ∧ Below w.heap.size w w' := by
  have D0 : Hid (s.data.toList.drop k = s[k] :: s.data.toList.drop (k + 1)) := Qm.drop_at s k hk
  cases hp : Qm.plain s[k].toNat
  · by_cases h92 : s[k] = 92
    · have e92 : ((s[k].toNat : Int) != 92) = false := eq_int' h92
      have H92 : Hid (s[k] = 92) := h92
      clear h92
      by_cases h1 : k + 1 < s.size
      · have j1 : (k : Int) + 1 < s.size := by omega
        have D1 : Hid (s.data.toList.drop (k + 1) = s[k + 1] :: s.data.toList.drop (k + 2)) := Qm.drop_at s (k + 1) h1
        by_cases d1 : s[k + 1] = 110
        · have e1 : ((s[k + 1].toNat : Int) == 110) = true := eq_int d1
          have R : Hid (Qm.nx (s.data.toList.drop k) = (10, 2)) := by unfold Hid; rw [D0.out, D1.out, H92.out, d1]; exact Qm.nx_n _
          clear d1
          go_enter Try.func21, Try.ntmps21
          go_wp2_with (go_at_call 33; refine (l2Plain_any _ _).mono ?_; rintro e w' ⟨rfl, hw⟩; subst w')
          go_ret2
          exact ⟨by rw [R.out]; rfl, Below.refl _ _⟩
        · have e1 : ((s[k + 1].toNat : Int) == 110) = false := ne_int d1
          by_cases d2 : s[k + 1] = 34
          · have e2 : ((s[k + 1].toNat : Int) == 34) = true := eq_int d2
            have R : Hid (Qm.nx (s.data.toList.drop k) = (s[k + 1], 2)) := by unfold Hid; rw [D0.out, D1.out, H92.out]; exact Qm.nx_q _ _ (.inl d2)
            clear d1 d2
            go_enter Try.func21, Try.ntmps21
            go_wp2_with (go_at_call 33; refine (l2Plain_any _ _).mono ?_; rintro e w' ⟨rfl, hw⟩; subst w')
            go_ret2
            exact ⟨by rw [R.out]; rfl, Below.refl _ _⟩
          · have e2 : ((s[k + 1].toNat : Int) == 34) = false := ne_int d2
            by_cases d3 : s[k + 1] = 92
            · have e3 : ((s[k + 1].toNat : Int) == 92) = true := eq_int d3
              have R : Hid (Qm.nx (s.data.toList.drop k) = (s[k + 1], 2)) := by unfold Hid; rw [D0.out, D1.out, H92.out]; exact Qm.nx_q _ _ (.inr d3)
              clear d1 d2 d3
              go_enter Try.func21, Try.ntmps21
              go_wp2_with (go_at_call 33; refine (l2Plain_any _ _).mono ?_; rintro e w' ⟨rfl, hw⟩; subst w')
              go_ret2
              exact ⟨by rw [R.out]; rfl, Below.refl _ _⟩
            · have e3 : ((s[k + 1].toNat : Int) == 92) = false := ne_int d3
              by_cases d4 : s[k + 1] = 120
              · have e4 : ((s[k + 1].toNat : Int) == 120) = true := eq_int d4
                have R0 : Hid (Qm.nx (s.data.toList.drop k) = Qm.hx (s.data.toList.drop (k + 2))) := by unfold Hid; rw [D0.out, D1.out, H92.out, d4]; exact Qm.nx_x _
                clear d1 d2 d3 d4
                by_cases h3 : k + 3 < s.size
                · have j3 : (k : Int) + 3 < s.size := by omega
                  have j2 : (k : Int) + 2 < s.size := by omega
                  have D2 : s.data.toList.drop (k + 2) = s[k + 2] :: s.data.toList.drop (k + 3) := Qm.drop_at s (k + 2) (by omega)
                  have D3 : s.data.toList.drop (k + 3) = s[k + 3] :: s.data.toList.drop (k + 4) := Qm.drop_at s (k + 3) (by omega)
                  have R2 : Hid (Qm.nx (s.data.toList.drop k) = if 0 ≤ Qm.hexv s[k + 2] ∧ 0 ≤ Qm.hexv s[k + 3] then (UInt8.ofNat (Qm.hexv s[k + 2] * 16 + Qm.hexv s[k + 3]).toNat, 4) else (0, 0)) := by unfold Hid; rw [R0.out, D2, D3, Qm.hx_two]
                  clear D2 D3 R0
                  obtain ⟨bx1, bx2⟩ := Qm.hexv_le s[k + 2]
                  obtain ⟨by1, by2⟩ := Qm.hexv_le s[k + 3]
                  by_cases g1 : 0 ≤ Qm.hexv s[k + 2]
                  · have g1' : decide (0 ≤ Qm.hexv s[k + 2]) = true := by simpa using g1
                    by_cases g2 : 0 ≤ Qm.hexv s[k + 3]
                    · have R : Hid (Qm.nx (s.data.toList.drop k) = (UInt8.ofNat (Qm.hexv s[k + 2] * 16 + Qm.hexv s[k + 3]).toNat, 4)) := by unfold Hid; rw [R2.out, if_pos ⟨g1, g2⟩]
                      have g2' : decide (0 ≤ Qm.hexv s[k + 3]) = true := by simpa using g2
                      have BY : Hid (((UInt8.ofNat (Qm.hexv s[k + 2] * 16 + Qm.hexv s[k + 3]).toNat).toNat : Int) = Qm.hexv s[k + 2] * 16 + Qm.hexv s[k + 3]) := Qm.byte_of _ _ g1 g2
                      clear R2
                      go_enter Try.func21, Try.ntmps21
                      go_wp2_with (first | (go_at_call 33; refine (l2Plain_any _ _).mono ?_; rintro e w' ⟨rfl, hw⟩; subst w') | (go_at_call 37; refine (l2Hex_any _ _).mono ?_; rintro e w' ⟨rfl, hw⟩; subst w'))
                      go_quiet ((go_at_call 37; exact Calls.quiet_of_same (l2Hex_any _ _)))
                      go_wp2_with fail
                      go_ret2
                      exact ⟨by rw [R.out]; exact ret_two (by rw [BY.out]) rfl, below_drewN (Below.refl _ _) _⟩
                    · have R : Hid (Qm.nx (s.data.toList.drop k) = (0, 0)) := by unfold Hid; rw [R2.out, if_neg (fun h => g2 h.2)]
                      have g2' : decide (0 ≤ Qm.hexv s[k + 3]) = false := by simpa using g2
                      clear R2
                      go_enter Try.func21, Try.ntmps21
                      go_wp2_with (first | (go_at_call 33; refine (l2Plain_any _ _).mono ?_; rintro e w' ⟨rfl, hw⟩; subst w') | (go_at_call 37; refine (l2Hex_any _ _).mono ?_; rintro e w' ⟨rfl, hw⟩; subst w'))
                      go_ret2
                      exact ⟨by rw [R.out]; rfl, Below.refl _ _⟩
                  · have R : Hid (Qm.nx (s.data.toList.drop k) = (0, 0)) := by unfold Hid; rw [R2.out, if_neg (fun h => g1 h.1)]
                    have g1' : decide (0 ≤ Qm.hexv s[k + 2]) = false := by simpa using g1
                    clear R2
                    go_enter Try.func21, Try.ntmps21
                    go_wp2_with (first | (go_at_call 33; refine (l2Plain_any _ _).mono ?_; rintro e w' ⟨rfl, hw⟩; subst w') | (go_at_call 37; refine (l2Hex_any _ _).mono ?_; rintro e w' ⟨rfl, hw⟩; subst w'))
                    go_ret2
                    exact ⟨by rw [R.out]; rfl, Below.refl _ _⟩
                · have j3 : ¬ (k : Int) + 3 < s.size := by omega
                  have R : Hid (Qm.nx (s.data.toList.drop k) = (0, 0)) := by unfold Hid; rw [R0.out]; exact Qm.hx_short _ (by rw [List.length_drop, Qm.len_eq]; omega)
                  clear R0
                  go_enter Try.func21, Try.ntmps21
                  go_wp2_with (first | (go_at_call 33; refine (l2Plain_any _ _).mono ?_; rintro e w' ⟨rfl, hw⟩; subst w') | (go_at_call 37; refine (l2Hex_any _ _).mono ?_; rintro e w' ⟨rfl, hw⟩; subst w'))
                  go_ret2
                  exact ⟨by rw [R.out]; rfl, Below.refl _ _⟩
              · have e4 : ((s[k + 1].toNat : Int) == 120) = false := ne_int d4
                have R : Hid (Qm.nx (s.data.toList.drop k) = (0, 0)) := by unfold Hid; rw [D0.out, D1.out, H92.out]; exact Qm.nx_no _ _ d1 d2 d3 d4
                clear d1 d2 d3 d4
                go_enter Try.func21, Try.ntmps21
                go_wp2_with (go_at_call 33; refine (l2Plain_any _ _).mono ?_; rintro e w' ⟨rfl, hw⟩; subst w')
                go_ret2
                exact ⟨by rw [R.out]; rfl, Below.refl _ _⟩
      · have j1 : ¬ (k : Int) + 1 < s.size := by omega
        have j1' : (s.size : Int) ≤ (k : Int) + 1 := by omega
        have R : Hid (Qm.nx (s.data.toList.drop k) = (0, 0)) := by unfold Hid; rw [D0.out, Qm.drop_end s (k + 1) h1, H92.out]; exact Qm.nx_bare
        go_enter Try.func21, Try.ntmps21
        go_wp2_with (go_at_call 33; refine (l2Plain_any _ _).mono ?_; rintro e w' ⟨rfl, hw⟩; subst w')
        go_ret2
        exact ⟨by rw [R.out]; rfl, Below.refl _ _⟩
    · have e92 : ((s[k].toNat : Int) != 92) = true := ne_int' h92
      have R : Hid (Qm.nx (s.data.toList.drop k) = (0, 0)) := by unfold Hid; rw [D0.out]; exact Qm.nx_other _ _ hp h92
      clear h92
      go_enter Try.func21, Try.ntmps21
      go_wp2_with (go_at_call 33; refine (l2Plain_any _ _).mono ?_; rintro e w' ⟨rfl, hw⟩; subst w')
      go_ret2
      exact ⟨by rw [R.out]; rfl, Below.refl _ _⟩
  · have R : Hid (Qm.nx (s.data.toList.drop k) = (s[k], 1)) := by unfold Hid; rw [D0.out]; exact Qm.nx_plain _ _ hp
    go_enter Try.func21, Try.ntmps21
    go_wp2_with (go_at_call 33; refine (l2Plain_any _ _).mono ?_; rintro e w' ⟨rfl, hw⟩; subst w')
    go_ret2
    exact ⟨by rw [R.out]; rfl, Below.refl _ _⟩
end Go.Proofs.Ytkdilgmlabaehaa
