/- Contracts: figures of a text, their number, l1Read, DecRead of both sides. -/
import Derived.Test.YtldlfmehplemiaaCut
import Derived.Test.YtldlfmehplemiaaDecG
namespace Go.Proofs.Ytldlfmehplemiaa
open Go.RowKit

set_option maxHeartbeats 400000 in
theorem isFig_any (c : Int) (w : World) :
    Calls Try.prog 59 #[.int .u8 c] w fun e w' => e = .returned (.bool (Qm.fig c)) ∧ w' = w := by
  go_enter Try.func59, Try.ntmps59
  go_wp2
  all_goals
    go_ret
    exact ⟨ret_bool (by rw [Bool.eq_iff_iff]; simp [Qm.fig]; try omega), rfl⟩
theorem len_bool (s : ByteArray) : decide (0 < s.size) = decide (s.data.toList ≠ []) := by
  rw [← Qm.len_eq]; cases s.data.toList <;> simp

set_option maxHeartbeats 400000 in
theorem l1Figures_any (s : ByteArray) (w : World) (hs : s.size ≤ 100000000) :
    Calls Try.prog 55 #[.string s] w fun e w' => e = .returned (.bool (Rm.figs s.data.toList)) ∧ w' = w := by
  go_enter Try.func55, Try.ntmps55
  go_wp2_with fail
  go_loop [3] (fun i => ∃ k : Nat, k ≤ s.size ∧ i = .int .i64 k ∧ s.data.toList.all (fun c => Qm.fig c.toNat) = (s.data.toList.drop k).all (fun c => Qm.fig c.toNat)) (fun i => s.size - (intOf i).toNat)
  case atStart => exact ⟨0, Nat.zero_le _, rfl, by simp⟩
  case round =>
    obtain ⟨k, hk, rfl, hr⟩ := hrel
    have HR : Hid (s.data.toList.all (fun c => Qm.fig c.toNat) = (s.data.toList.drop k).all (fun c => Qm.fig c.toNat)) := hr
    clear hr
    by_cases hlt : k < s.size
    · have HS : Hid ((s.data.toList.drop k).all (fun c => Qm.fig c.toNat) = (Qm.fig s[k].toNat && (s.data.toList.drop (k + 1)).all (fun c => Qm.fig c.toNat))) := by unfold Hid; rw [Qm.drop_at s k hlt]; rfl
      have hb := s[k].toNat_lt
      by_cases h1 : s[k].toNat < 48
      · have hf : Hid (Qm.fig s[k].toNat = false) := by unfold Hid; simp [Qm.fig]; omega
        have h1' : decide ((s[k].toNat : Int) < 48) = true := by simp; omega
        go_wp2_with fail
        go_ret
        exact ⟨ret_bool (by rw [Rm.figs, HR.out, HS.out, hf.out]; rfl), rfl⟩
      · have h1' : decide ((s[k].toNat : Int) < 48) = false := by simp; omega
        by_cases h2 : 57 < s[k].toNat
        · have hf : Hid (Qm.fig s[k].toNat = false) := by unfold Hid; simp [Qm.fig]; omega
          have h2' : decide ((57 : Int) < s[k].toNat) = true := by simp; omega
          go_wp2_with fail
          go_ret
          exact ⟨ret_bool (by rw [Rm.figs, HR.out, HS.out, hf.out]; rfl), rfl⟩
        · have hf : Hid (Qm.fig s[k].toNat = true) := by unfold Hid; simp [Qm.fig]; omega
          have h2' : decide ((57 : Int) < s[k].toNat) = false := by simp; omega
          go_wp2_with fail
          go_round
          case rel => exact ⟨k + 1, by omega, by go_num, by rw [HR.out, HS.out, hf.out]; rfl⟩
          case measure => simp [intOf]; omega
    · have HE : Hid ((s.data.toList.drop k).all (fun c => Qm.fig c.toNat) = true) := by unfold Hid; rw [Qm.drop_end s k hlt]; rfl
      go_wp2_with fail
      go_ret
      exact ⟨ret_bool (by rw [Rm.figs, HR.out, HE.out, ← len_bool]; simp), rfl⟩

set_option maxHeartbeats 400000 in
theorem areFigures_any (s : ByteArray) (w : World) (hs : s.size ≤ 100000000) :
    Calls Try.prog 32 #[.string s] w fun e w' => e = .returned (.bool (Rm.figs s.data.toList)) ∧ w' = w := by
  go_enter Try.func32, Try.ntmps32
  go_wp2_with fail
  go_loop [6] (fun i => ∃ k : Nat, k ≤ s.size ∧ i = .int .i64 k ∧ s.data.toList.all (fun c => Qm.fig c.toNat) = (s.data.toList.drop k).all (fun c => Qm.fig c.toNat)) (fun i => s.size - (intOf i).toNat)
  case atStart => exact ⟨0, Nat.zero_le _, rfl, by simp⟩
  case round =>
    obtain ⟨k, hk, rfl, hr⟩ := hrel
    have HR : Hid (s.data.toList.all (fun c => Qm.fig c.toNat) = (s.data.toList.drop k).all (fun c => Qm.fig c.toNat)) := hr
    clear hr
    by_cases hlt : k < s.size
    · have HS : Hid ((s.data.toList.drop k).all (fun c => Qm.fig c.toNat) = (Qm.fig s[k].toNat && (s.data.toList.drop (k + 1)).all (fun c => Qm.fig c.toNat))) := by unfold Hid; rw [Qm.drop_at s k hlt]; rfl
      cases hf : Qm.fig s[k].toNat
      · go_wp2_with (go_at_call 59; refine (isFig_any _ _).mono ?_; rintro e w' ⟨rfl, hw⟩; subst w')
        go_ret
        exact ⟨ret_bool (by rw [Rm.figs, HR.out, HS.out, hf]; rfl), rfl⟩
      · go_wp2_with (go_at_call 59; refine (isFig_any _ _).mono ?_; rintro e w' ⟨rfl, hw⟩; subst w')
        go_round
        case rel => exact ⟨k + 1, by omega, by go_num, by rw [HR.out, HS.out, hf]; rfl⟩
        case measure => simp [intOf]; omega
    · have HE : Hid ((s.data.toList.drop k).all (fun c => Qm.fig c.toNat) = true) := by unfold Hid; rw [Qm.drop_end s k hlt]; rfl
      go_wp2_with fail
      go_ret
      exact ⟨ret_bool (by rw [Rm.figs, HR.out, HE.out, ByteArray.toList_eq]; cases s.data.toList <;> simp), rfl⟩

set_option maxHeartbeats 400000 in
theorem wholeOf_any (s : ByteArray) (w : World) (hs : s.size ≤ 17) (hf : s.data.toList.all (fun c => Qm.fig c.toNat) = true) :
    Calls Try.prog 33 #[.string s] w fun e w' => e = .returned (.int .i64 (Rm.whole s.data.toList)) ∧ w' = w := by
  have HF : Hid (s.data.toList.all (fun c => Qm.fig c.toNat) = true) := hf
  clear hf
  go_enter Try.func33, Try.ntmps33
  go_wp2_with fail
  go_loop [3, 7] (fun n i => ∃ k : Nat, k ≤ s.size ∧ i = .int .i64 k ∧ n = .int .i64 (Rm.whole (s.data.toList.take k))) (fun _ i => s.size - (intOf i).toNat)
  case atStart => exact ⟨0, Nat.zero_le _, rfl, rfl⟩
  case round =>
    obtain ⟨k, hk, rfl, rfl⟩ := hrel
    obtain ⟨b1, b2⟩ := Rm.whole_17 s.data.toList HF.out (by rw [Qm.len_eq]; omega) k
    by_cases hlt : k < s.size
    · have hfk : Qm.fig s[k].toNat = true := (List.all_eq_true.1 HF.out) _ (by show s.data[k] ∈ _; simp)
      have HW : Hid (Rm.whole (s.data.toList.take (k + 1)) = Rm.whole (s.data.toList.take k) * 10 + ((s[k].toNat : Int) - 48)) := Rm.whole_take s.data.toList k (by rw [Qm.len_eq]; exact hlt)
      obtain ⟨f1, f2⟩ : (48 : Int) ≤ s[k].toNat ∧ (s[k].toNat : Int) ≤ 57 := by simpa [Qm.fig] using hfk
      clear hfk
      generalize Rm.whole (s.data.toList.take k) = n at *
      go_wp2_with fail
      go_round
      case rel => exact ⟨k + 1, by omega, by go_num, by rw [HW.out]⟩
      case measure => simp [intOf]; omega
    · have HT : Hid (s.data.toList.take k = s.data.toList) := List.take_of_length_le (by rw [Qm.len_eq]; omega)
      go_wp2_with fail
      go_ret
      exact ⟨by rw [HT.out]; rfl, rfl⟩

end Go.Proofs.Ytldlfmehplemiaa
