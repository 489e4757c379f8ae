/- Contracts: a byte between quotes, of both sides. -/
import Derived.Test.YtkdilgmlabaehaaLexA
import Derived.Test.YtkdilgmlabaehaaQq
import Derived.Deep.RegionHeld3
import Derived.Deep.DeepCutAuto
import Derived.Below
import Derived.Laws.BytesArg
namespace Go.Proofs.Ytkdilgmlabaehaa
open Go.RowKit

set_option maxHeartbeats 400000 in
theorem l2Plain_any (c : Int) (w : World) :
    Calls Try.prog 33 #[.int .u8 c] w fun e w' => e = .returned (.bool (Qm.plain c)) ∧ w' = w := by
  go_enter Try.func33, Try.ntmps33
  go_wp2
  all_goals
    go_ret
    exact ⟨lret_bool (by rw [Bool.eq_iff_iff]; simp [Qm.plain]; try omega), rfl⟩
set_option maxHeartbeats 400000 in
theorem standsForItself_any (c : Int) (w : World) :
    Calls Try.prog 49 #[.int .u8 c] w fun e w' => e = .returned (.bool (Qm.plain c)) ∧ w' = w := by
  go_enter Try.func49, Try.ntmps49
  go_wp2
  all_goals
    go_ret
    exact ⟨lret_bool (by rw [Bool.eq_iff_iff]; simp [Qm.plain]; try omega), rfl⟩

/-- a new row of one or two bytes, as a text -/
theorem conv_one (W : World) (k : Nat) (c : Int) (hk : k = W.heap.size) :
    (convert 26 9 (.slice (some ⟨k, 0, none⟩) 1 1)).run Try.prog (W.alloc (.cells #[.int .u8 c] 5)) = .ok (.string (strOfNums [c])) (W.alloc (.cells #[.int .u8 c] 5)) := by
  subst hk
  refine run_convert_bytes_arg _ 26 5 Try.underlying26 Try.underlying5 W.heap.size 0 1 1 [c] rfl (fun i hi => ?_) 9 Try.underlying9
  obtain rfl : i = 0 := by omega
  simp
theorem conv_two (W : World) (k : Nat) (c d : Int) (hk : k = W.heap.size) :
    (convert 26 9 (.slice (some ⟨k, 0, none⟩) 2 2)).run Try.prog (W.alloc (.cells #[.int .u8 c, .int .u8 d] 5)) = .ok (.string (strOfNums [c, d])) (W.alloc (.cells #[.int .u8 c, .int .u8 d] 5)) := by
  subst hk
  refine run_convert_bytes_arg _ 26 5 Try.underlying26 Try.underlying5 W.heap.size 0 2 2 [c, d] rfl (fun i hi => ?_) 9 Try.underlying9
  have : i = 0 ∨ i = 1 := by omega
  rcases this with rfl | rfl <;> simp
theorem conv_two_drew (W : World) (k : Nat) (c d : Int) (hk : k = W.heap.size) :
    (convert 26 9 (.slice (some ⟨k, 0, none⟩) 2 2)).run Try.prog (W.alloc (.cells #[.int .u8 c, .int .u8 d] 5)).drew = .ok (.string (strOfNums [c, d])) (W.alloc (.cells #[.int .u8 c, .int .u8 d] 5)).drew := by
  subst hk
  refine run_convert_bytes_arg _ 26 5 Try.underlying26 Try.underlying5 W.heap.size 0 2 2 [c, d] rfl (fun i hi => ?_) 9 Try.underlying9
  have : i = 0 ∨ i = 1 := by omega
  rcases this with rfl | rfl <;> simp
theorem hex_at (i : Nat) (h : i < (⟨#[48, 49, 50, 51, 52, 53, 54, 55, 56, 57, 97, 98, 99, 100, 101, 102]⟩ : ByteArray).size) : (⟨#[48, 49, 50, 51, 52, 53, 54, 55, 56, 57, 97, 98, 99, 100, 101, 102]⟩ : ByteArray)[i] = Qm.hexd i := by
  have h' : i < 16 := h
  have : i = 0 ∨ i = 1 ∨ i = 2 ∨ i = 3 ∨ i = 4 ∨ i = 5 ∨ i = 6 ∨ i = 7 ∨ i = 8 ∨ i = 9 ∨ i = 10 ∨ i = 11 ∨ i = 12 ∨ i = 13 ∨ i = 14 ∨ i = 15 := by omega
  rcases this with rfl | rfl | rfl | rfl | rfl | rfl | rfl | rfl | rfl | rfl | rfl | rfl | rfl | rfl | rfl | rfl <;> rfl
theorem ret_str {a b : ByteArray} (h : a.data.toList = b.data.toList) : Ending.returned (.string a) = .returned (.string b) := by
  have : a = b := by cases a; cases b; simpa using h
  rw [this]

set_option maxHeartbeats 1000000 in
theorem l2Escape_any (b : UInt8) (w : World) :
    Calls Try.prog 18 #[.int .u8 b.toNat] w fun e w' => e = .returned (.string ⟨(Qm.esc b).toArray⟩) ∧ Below w.heap.size w w' := by
  have hb := b.toNat_lt
  by_cases hp : Qm.plain b.toNat = true
  · have hcv := conv_one w w.heap.size b.toNat rfl
    go_enter Try.func18, Try.ntmps18
    go_wp2_with (go_at_call 33; refine (l2Plain_any _ _).mono ?_; rintro e w' ⟨rfl, hw⟩; subst w')
    go_ret
    exact ⟨ret_str (by simp [strOfNums, Qm.esc, hp]), (by (repeat' (first | assumption | exact Below.refl _ _ | refine Below.alloc ?_ ?_ _ | refine Below.setCell ?_ ?_ _ | refine Below.drew ?_ | refine below_drewN ?_ _)) <;> (first | omega | (simp <;> omega)))⟩
  · have hp' : Qm.plain b.toNat = false := by simpa using hp
    by_cases h10 : b = 10
    · subst h10
      go_enter Try.func18, Try.ntmps18
      go_wp2_with (go_at_call 33; refine (l2Plain_any _ _).mono ?_; rintro e w' ⟨rfl, hw⟩; subst w')
      go_ret
      exact ⟨rfl, Below.refl _ _⟩
    · by_cases h2 : b = 34 ∨ b = 92
      · have hcv := conv_two w w.heap.size 92 34 rfl
        have hcw := conv_two w w.heap.size 92 92 rfl
        have he : Qm.esc b = [92, b] := by rw [Qm.esc, if_neg hp, if_neg h10, if_pos h2]
        rcases h2 with rfl | rfl
        all_goals
          go_enter Try.func18, Try.ntmps18
          go_wp2_with (go_at_call 33; refine (l2Plain_any _ _).mono ?_; rintro e w' ⟨rfl, hw⟩; subst w')
          go_ret
          exact ⟨ret_str (by rw [he]; simp [strOfNums]), (by (repeat' (first | assumption | exact Below.refl _ _ | refine Below.alloc ?_ ?_ _ | refine Below.setCell ?_ ?_ _ | refine Below.drew ?_ | refine below_drewN ?_ _)) <;> (first | omega | (simp <;> omega)))⟩
      · have t10 : ¬ (b.toNat = 10) := fun h => h10 (UInt8.toNat_inj.1 h)
        have t34 : ¬ (b.toNat = 34) := fun h => h2 (.inl (UInt8.toNat_inj.1 h))
        have t92 : ¬ (b.toNat = 92) := fun h => h2 (.inr (UInt8.toNat_inj.1 h))
        have e10 : ((b.toNat : Int) == 10) = false := by simp; omega
        have e34 : ((b.toNat : Int) == 34) = false := by simp; omega
        have e92 : ((b.toNat : Int) == 92) = false := by simp; omega
        obtain ⟨i, hi⟩ : ∃ i : Nat, i = b.toNat / 16 := ⟨_, rfl⟩
        obtain ⟨j, hj⟩ : ∃ j : Nat, j = b.toNat % 16 := ⟨_, rfl⟩
        have q1 : IntKind.u8.wrap ((b.toNat : Int).tdiv 16) = (i : Int) := by rw [IntKind.wrap_u8, Int.tdiv_eq_ediv_of_nonneg (by omega)]; omega
        have q2 : IntKind.u8.wrap ((b.toNat : Int).tmod 16) = (j : Int) := by rw [IntKind.wrap_u8, Int.tmod_eq_emod_of_nonneg (by omega)]; omega
        have q3 : (b.toNat : Int).tdiv 16 = (i : Int) := by rw [Int.tdiv_eq_ediv_of_nonneg (by omega)]; omega
        have q4 : (b.toNat : Int).tmod 16 = (j : Int) := by rw [Int.tmod_eq_emod_of_nonneg (by omega)]; omega
        have q5 : (b.toNat : Int) / 16 = (i : Int) := by omega
        have q6 : (b.toNat : Int) % 16 = (j : Int) := by omega
        have i1 : (0 : Int) ≤ (i : Int) := by omega
        have j1 : (0 : Int) ≤ (j : Int) := by omega
        have i2 : (i : Int) < 16 := by omega
        have j2 : (j : Int) < 16 := by omega
        have Hi : Hid (i = b.toNat / 16) := hi
        have Hj : Hid (j = b.toNat % 16) := hj
        clear hi hj
        go_enter Try.func18, Try.ntmps18
        go_wp2_with (go_at_call 33; refine (l2Plain_any _ _).mono ?_; rintro e w' ⟨rfl, hw⟩; subst w')
        have hcv := fun c d => conv_two_drew w w.heap.size c d rfl
        have hs2 : ∀ c d, (strOfNums [c, d]).size = 2 := fun c d => strOfNums_size [c, d]
        go_region
        go_wp2_with fail
        go_ret
        have he : Qm.esc b = [92, 120, Qm.hexd i, Qm.hexd j] := by rw [Qm.esc, if_neg hp, if_neg h10, if_neg h2, Hi.out, Hj.out]
        exact ⟨ret_str (by rw [he, hex_at, hex_at]; simp [strOfNums, ByteArray.data_append]), (by (repeat' (first | assumption | exact Below.refl _ _ | refine Below.alloc ?_ ?_ _ | refine Below.setCell ?_ ?_ _ | refine Below.drew ?_ | refine below_drewN ?_ _)) <;> (first | omega | (simp <;> omega)))⟩
end Go.Proofs.Ytkdilgmlabaehaa
