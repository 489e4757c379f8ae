/- Contracts: l1Dec (the decimal text of a whole number). -/
import Derived.Test.YtldlfmehplemiaaDecE
import Derived.Test.YtldlfmehplemiaaDm4
import Derived.Deep.RegionHeld3
import Derived.Laws.IdiomStrings
namespace Go.Proofs.Ytldlfmehplemiaa
open Go.RowKit
attribute [local go_sem] cell_alloc_is frozen_alloc_is

theorem conv_one (W : World) (b : Nat) (c : Int) (h0 : 0 ≤ c) (h1 : c ≤ 255) (hc : W.cell? ⟨b, 0, none⟩ = some (.int .u8 c)) :
    (convert 32 9 (.slice (some ⟨b, 0, none⟩) 1 1)).run Try.prog W = .ok (.string ⟨#[UInt8.ofNat c.toNat]⟩) W := by
  have e : (UInt8.ofNat c.toNat).toNat = c.toNat := by rw [UInt8.toNat_ofNat']; omega
  exact run_convert_bytes_back (P := Try.prog) W 32 9 5 ⟨b, 0, none⟩ 1 [UInt8.ofNat c.toNat] Try.underlying32 Try.underlying5 Try.underlying9 (by
    intro j hj
    have hj0 : j = 0 := by simp at hj; omega
    subst hj0
    simp only [List.getElem_cons_zero, e]
    rw [show ((c.toNat : Nat) : Int) = c from by omega]
    exact hc)

theorem hideIt2 {p : Prop} (h : p) : Hid p := h
set_option maxHeartbeats 1000000 in
theorem l1Dec_small (k : Nat) (n : Int) (w : World) (h1 : 0 ≤ n) (hn : n < 10) :
    Calls Try.prog 48 #[.int .i64 n] w fun e w' => e = .returned (.string ⟨(Dm.digs (k + 1) n.toNat).toArray⟩) ∧ Below w.heap.size w w' := by
  have hcv := fun W b => conv_one W b (48 + n) (by omega) (by omega)
  have HF : Hid (Dm.digs (k + 1) n.toNat = [UInt8.ofNat (48 + n).toNat]) := by
    unfold Hid; rw [Dm.digs, if_pos (by omega), show (48 + n).toNat = 48 + n.toNat from by omega]
  go_enter Try.func48, Try.ntmps48
  go_wp2_with fail
  go_ret
  exact ⟨by rw [HF.out]; rfl, (by (repeat' (first | assumption | exact Below.refl _ _ | refine Below.alloc ?_ ?_ _ | refine Below.setCell ?_ ?_ _ | refine Below.drew ?_ | refine below_drewN ?_ _)) <;> (first | omega | (simp <;> omega)))⟩

set_option maxHeartbeats 1000000 in
theorem l1Dec_any (k : Nat) : ∀ (n : Int) (w : World), k ≤ 30 → 0 ≤ n → n < 10 ^ (k + 1) → n ≤ 9223372036854775807 →
    Calls Try.prog 48 #[.int .i64 n] w fun e w' => e = .returned (.string ⟨(Dm.digs (k + 1) n.toNat).toArray⟩) ∧ Below w.heap.size w w' := by
  induction k with
  | zero => intro n w _ h1 h2 h3; exact l1Dec_small 0 n w h1 (by simpa using h2)
  | succ k ih =>
    intro n w hk h1 h2 h3
    by_cases hn : n < 10
    · exact l1Dec_small _ n w h1 hn
    · have hcv := fun W b => conv_one W b (48 + n % 10) (by omega) (by omega)
      have h10 : n / 10 < 10 ^ (k + 1) := by rw [Int.pow_succ] at h2; omega
      obtain ⟨s, hs⟩ : ∃ s : ByteArray, s = ⟨(Dm.digs (k + 1) (n / 10).toNat).toArray⟩ := ⟨_, rfl⟩
      have IH : Hid (∀ w : World, Calls Try.prog 48 #[.int .i64 (n / 10)] w fun e w' => e = .returned (.string s) ∧ Below w.heap.size w w') := fun w => by rw [hs]; exact ih (n / 10) w (by omega) (by omega) h10 (by omega)
      have HF : Hid ((⟨(Dm.digs (k + 1 + 1) n.toNat).toArray⟩ : ByteArray) = s ++ ⟨#[UInt8.ofNat (48 + n % 10).toNat]⟩) := by
        unfold Hid; rw [hs, Dm.digs, if_neg (by omega), show (48 + n % 10).toNat = 48 + n.toNat % 10 from by omega, show (n / 10).toNat = n.toNat / 10 from by omega]; exact ByteArray.ext (by simp)
      have hsz : s.size ≤ 40 := by rw [hs]; have := Dm.digs_len (k + 1) (n / 10).toNat; simp only [ByteArray.size, List.size_toArray]; omega
      clear h2 ih h10 hs
      rw [HF.out]
      clear HF
      have hw1 : IntKind.i64.wrap (n.tdiv 10) = n / 10 := by rw [Int.tdiv_eq_ediv_of_nonneg h1, IntKind.wrap_i64]; omega
      have hw2 : n.tmod 10 = n % 10 := Int.tmod_eq_emod_of_nonneg h1
      have hw3 : IntKind.i64.wrap (48 + n % 10) = 48 + n % 10 := by rw [IntKind.wrap_i64]; omega
      have hw4 : IntKind.u8.wrap (48 + n % 10) = 48 + n % 10 := by rw [IntKind.wrap_u8]; omega
      go_enter Try.func48, Try.ntmps48
      go_wp2_with fail
      go_region_with (go_at_call 48; refine (IH.out _).mono ?_; rintro e w1 ⟨rfl, hb1⟩; obtain ⟨hc, hf⟩ := bsome hb1)
      all_goals
        go_wp2
        go_ret
        refine ⟨rfl, ?_⟩
        (repeat' (first | exact Below.refl _ _ | refine Below.alloc ?_ ?_ _ | refine Below.drew ?_ | refine Below.trans ?_ (hb1.mono ?_))) <;> (first | omega | (simp; done) | (have := hb1.size; simp at this; omega) | (simp; omega))
end Go.Proofs.Ytldlfmehplemiaa
