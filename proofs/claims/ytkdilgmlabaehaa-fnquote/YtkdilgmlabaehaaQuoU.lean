/- Contracts: the byte that a text begins with, as it stands between quotes, of the program. -/
import Derived.Test.YtkdilgmlabaehaaQuoS
import Derived.Deep.QuietTactic
import Derived.BigQuiet
namespace Go.Proofs.Ytkdilgmlabaehaa
open Go.RowKit
theorem pre_two (s : ByteArray) (h : 1 < s.size) : pre s ⟨#[92, 120]⟩ = (decide (s[0] = 92) && decide (s[1] = 120)) := by
  have D0 : s.data.toList = s[0] :: s.data.toList.drop 1 := Qm.drop_at s 0 (by omega)
  have D1 : s.data.toList.drop 1 = s[1] :: s.data.toList.drop 2 := Qm.drop_at s 1 h
  have hx : (s.extract 0 2).data.toList = [s[0], s[1]] := by
    rw [ByteArray.data_extract, Array.toList_extract, List.extract_eq_take_drop, List.drop_zero, D0, D1]; rfl
  unfold pre
  rw [show (⟨#[92, 120]⟩ : ByteArray).size = 2 from rfl, decide_eq_true (by omega), ByteArray.toList_eq, ByteArray.toList_eq, hx]
  show ([s[0], s[1]] == [92, 120]) = _
  rw [Bool.eq_iff_iff]
  simp
theorem pre_short (s : ByteArray) (h : ¬ 1 < s.size) : pre s ⟨#[92, 120]⟩ = false := by
  unfold pre
  rw [show (⟨#[92, 120]⟩ : ByteArray).size = 2 from rfl, decide_eq_false (by omega)]; rfl
theorem marks_none : ∀ n : Fin 256, n.val ≠ 34 → n.val ≠ 92 → n.val ≠ 110 → Lib.indexByte (⟨#[34, 92, 110]⟩ : ByteArray).data.toList (UInt8.ofNat n.val) = -1 := by decide +kernel
theorem by_at {i : Nat} {x : UInt8} (hx : (⟨#[34, 92, 10]⟩ : ByteArray).data[i]? = some x) (h : i < (⟨#[34, 92, 10]⟩ : ByteArray).size) : (⟨#[34, 92, 10]⟩ : ByteArray)[i]'h = x := by
  obtain ⟨h2, e⟩ := Array.getElem?_eq_some_iff.1 hx
  exact e
theorem extract_two (s : ByteArray) : (s.extract 2 s.size).data.toList = s.data.toList.drop 2 := by
  rw [ByteArray.data_extract, Array.toList_extract, List.extract_eq_take_drop, List.take_of_length_le]
  rw [List.length_drop, Qm.len_eq]; exact Nat.le_refl _
set_option maxHeartbeats 4000000 in
theorem getByte_any (s : ByteArray) (w : World) (hk : 0 < s.size) (hs : s.size ≤ 100000000) :
    Calls Try.prog 39 #[pq, .string s] w fun e w' => e = two (Qm.nx s.data.toList) ∧ Below w.heap.size w w' := by
  have D0 : Hid (s.data.toList = s[0] :: s.data.toList.drop 1) := Qm.drop_at s 0 hk
  have j0 : (0 : Int) < s.size := by omega
  have HC := cutPrefix_any s ⟨#[92, 120]⟩ (w.alloc (.cells #[.string ⟨#[92, 120]⟩, .string ⟨#[34, 92, 110]⟩, .string ⟨#[34, 92, 10]⟩, .int .i64 3] 38))
  cases hp : Qm.plain s[0].toNat
  · by_cases h92 : s[0] = 92
    · have f92 : ((s[0].toNat : Int) != 92) = false := eq_int' h92
      by_cases h1 : 1 < s.size
      · have j1 : (1 : Int) < s.size := by omega
        have j2 : ¬ (s.size : Int) < 2 := by omega
        have D1 : Hid (s.data.toList.drop 1 = s[1] :: s.data.toList.drop 2) := Qm.drop_at s 1 h1
        have hpre := pre_two s h1
        rw [decide_eq_true h92, Bool.true_and] at hpre
        have H92 : Hid (s[0] = 92) := h92
        clear h92
        by_cases d4 : s[1] = 120
        · rw [hpre, decide_eq_true d4, if_pos rfl, show (⟨#[92, 120]⟩ : ByteArray).size = 2 from rfl] at HC
          have R : Hid (Qm.nx s.data.toList = Qm.hx (s.extract 2 s.size).data.toList) := by unfold Hid; rw [extract_two, D0.out, D1.out, H92.out, d4]; exact Qm.nx_x _
          have hxs : (s.extract 2 s.size).size ≤ 100000000 := by rw [ByteArray.size_extract]; omega
          have HX := hexByte_any (s.extract 2 s.size) (w.alloc (.cells #[.string ⟨#[92, 120]⟩, .string ⟨#[34, 92, 110]⟩, .string ⟨#[34, 92, 10]⟩, .int .i64 3] 38)) hxs
          have H4 : Hid ((Qm.hx (s.extract 2 s.size).data.toList).2 = 4 ∨ Qm.hx (s.extract 2 s.size).data.toList = (0, 0)) := by
            unfold Hid Qm.hx
            split
            · split
              · exact .inl rfl
              · exact .inr rfl
            · exact .inr rfl
          clear hpre d4 hxs
          generalize Qm.hx (s.extract 2 s.size).data.toList = hr at *
          generalize s.extract 2 s.size = tl at *
          obtain ⟨hb, hn⟩ := hr
          by_cases h0 : hn = 0
          · subst h0
            have hb0 : Hid (hb = 0) := by rcases H4.out with h | h; (cases h); exact congrArg Prod.fst h
            have hd : (decide ((hb, 0).2 ≠ 0)) = false := rfl
            go_enter Try.func39, Try.ntmps39
            go_wp2_with (first | (go_at_call 49; refine (standsForItself_any _ _).mono ?_; rintro e w' ⟨rfl, hw⟩; subst w') | (go_at_call 54; refine HC.mono ?_; rintro e w' ⟨rfl, hw⟩; subst w') | (go_at_call 55; refine HX.mono ?_; rintro e w' ⟨rfl, hw⟩; subst w'))
            go_ret2
            exact ⟨by rw [R.out, hb0.out]; rfl, (by (repeat' (first | assumption | exact Below.refl _ _ | refine Below.alloc ?_ ?_ _ | refine Below.setCell ?_ ?_ _ | refine Below.drew ?_ | refine below_drewN ?_ _)) <;> (first | omega | (simp <;> omega)))⟩
          · have hn4 : hn = 4 := by rcases H4.out with h | h; exact h; exact absurd (congrArg Prod.snd h) h0
            subst hn4
            go_enter Try.func39, Try.ntmps39
            go_wp2_with (first | (go_at_call 49; refine (standsForItself_any _ _).mono ?_; rintro e w' ⟨rfl, hw⟩; subst w') | (go_at_call 54; refine HC.mono ?_; rintro e w' ⟨rfl, hw⟩; subst w') | (go_at_call 55; refine HX.mono ?_; rintro e w' ⟨rfl, hw⟩; subst w'))
            go_region
            all_goals
              go_wp2_with fail
              go_ret2
              exact ⟨by rw [R.out]; rfl, (by (repeat' (first | assumption | exact Below.refl _ _ | refine Below.alloc ?_ ?_ _ | refine Below.setCell ?_ ?_ _ | refine Below.drew ?_ | refine below_drewN ?_ _)) <;> (first | omega | (simp <;> omega)))⟩
        · rw [hpre, decide_eq_false d4, if_neg (by decide)] at HC
          by_cases hm : s[1] = 34 ∨ s[1] = 92 ∨ s[1] = 110
          · obtain ⟨x, i, hx, hix, he, hmk⟩ : ∃ (x : UInt8) (i : Nat), i < 3 ∧ Lib.indexByte (⟨#[34, 92, 110]⟩ : ByteArray).data.toList ((s[1].toNat : Int).toNat.toUInt8) = (i : Int) ∧ Qm.nx (92 :: s[1] :: s.data.toList.drop 2) = (x, 2) ∧ (⟨#[34, 92, 10]⟩ : ByteArray).data[i]? = some x := by
              rcases hm with h | h | h <;> rw [h]
              · exact ⟨34, 0, by omega, by decide +kernel, Qm.nx_q _ _ (.inl rfl), by decide +kernel⟩
              · exact ⟨92, 1, by omega, by decide +kernel, Qm.nx_q _ _ (.inr rfl), by decide +kernel⟩
              · exact ⟨10, 2, by omega, by decide +kernel, Qm.nx_n _, by decide +kernel⟩
            have R : Hid (Qm.nx s.data.toList = (x, 2)) := by unfold Hid; rw [D0.out, D1.out, H92.out]; exact he
            have HK : Hid ((⟨#[34, 92, 10]⟩ : ByteArray).data[i]? = some x) := hmk
            clear he hm d4 hpre hmk
            have HIX : ∀ W, Calls Try.prog 50 #[.string ⟨#[34, 92, 110]⟩, .int .u8 s[1].toNat] W fun e w' => e = .returned (.int .i64 i) ∧ w' = W := fun W => (indexByte_lib _ _ W).mono fun e w' h => ⟨h.1.trans (by rw [hix]), h.2⟩
            clear hix
            have hi0 : (0 : Int) ≤ (i : Int) := by omega
            have hi3 : (i : Int) < 3 := by omega
            go_enter Try.func39, Try.ntmps39
            go_wp2_with (first | (go_at_call 49; refine (standsForItself_any _ _).mono ?_; rintro e w' ⟨rfl, hw⟩; subst w') | (go_at_call 54; refine HC.mono ?_; rintro e w' ⟨rfl, hw⟩; subst w') | (go_at_call 55; refine HX.mono ?_; rintro e w' ⟨rfl, hw⟩; subst w'))
            obtain ⟨c0, c1, c2, c3⟩ := qbox_cells (qbox_new w)
            have hB0 := (Below.refl _ w).alloc (Nat.le_refl _) (.cells #[.string ⟨#[92, 120]⟩, .string ⟨#[34, 92, 110]⟩, .string ⟨#[34, 92, 10]⟩, .int .i64 3] 38)
            generalize w.alloc (.cells #[.string ⟨#[92, 120]⟩, .string ⟨#[34, 92, 110]⟩, .string ⟨#[34, 92, 10]⟩, .int .i64 3] 38) = W0 at *
            go_quiet ((go_at_call 50; exact Calls.quiet_of_same (HIX _)))
            go_wp2_with fail
            go_ret2
            exact ⟨by rw [R.out, ← by_at HK.out (by show i < 3; omega)]; rfl, below_drewN hB0 _⟩
          · have hix : Lib.indexByte (⟨#[34, 92, 110]⟩ : ByteArray).data.toList ((s[1].toNat : Int).toNat.toUInt8) = -1 := by
              rw [Int.toNat_natCast]
              exact marks_none ⟨s[1].toNat, s[1].toNat_lt⟩ (fun h => hm (.inl (UInt8.toNat_inj.1 h))) (fun h => hm (.inr (.inl (UInt8.toNat_inj.1 h)))) (fun h => hm (.inr (.inr (UInt8.toNat_inj.1 h))))
            have R : Hid (Qm.nx s.data.toList = (0, 0)) := by unfold Hid; rw [D0.out, D1.out, H92.out]; exact Qm.nx_no _ _ (fun h => hm (.inr (.inr h))) (fun h => hm (.inl h)) (fun h => hm (.inr (.inl h))) d4
            have HIX : ∀ W, Calls Try.prog 50 #[.string ⟨#[34, 92, 110]⟩, .int .u8 s[1].toNat] W fun e w' => e = .returned (.int .i64 (-1)) ∧ w' = W := fun W => (indexByte_lib _ _ W).mono fun e w' h => ⟨h.1.trans (by rw [hix]), h.2⟩
            clear hix
            clear hm d4 hpre
            go_enter Try.func39, Try.ntmps39
            go_wp2_with (first | (go_at_call 49; refine (standsForItself_any _ _).mono ?_; rintro e w' ⟨rfl, hw⟩; subst w') | (go_at_call 54; refine HC.mono ?_; rintro e w' ⟨rfl, hw⟩; subst w') | (go_at_call 55; refine HX.mono ?_; rintro e w' ⟨rfl, hw⟩; subst w'))
            obtain ⟨c0, c1, c2, c3⟩ := qbox_cells (qbox_new w)
            have hB0 := (Below.refl _ w).alloc (Nat.le_refl _) (.cells #[.string ⟨#[92, 120]⟩, .string ⟨#[34, 92, 110]⟩, .string ⟨#[34, 92, 10]⟩, .int .i64 3] 38)
            generalize w.alloc (.cells #[.string ⟨#[92, 120]⟩, .string ⟨#[34, 92, 110]⟩, .string ⟨#[34, 92, 10]⟩, .int .i64 3] 38) = W0 at *
            go_quiet ((go_at_call 50; exact Calls.quiet_of_same (HIX _)))
            go_wp2_with fail
            go_ret2
            exact ⟨by rw [R.out]; rfl, below_drewN hB0 _⟩
      · have j1 : (s.size : Int) < 2 := by omega
        rw [pre_short s h1, if_neg (by decide)] at HC
        have R : Hid (Qm.nx s.data.toList = (0, 0)) := by unfold Hid; rw [D0.out, Qm.drop_end s 1 h1, h92]; exact Qm.nx_bare
        clear h92
        go_enter Try.func39, Try.ntmps39
        go_wp2_with (first | (go_at_call 49; refine (standsForItself_any _ _).mono ?_; rintro e w' ⟨rfl, hw⟩; subst w') | (go_at_call 54; refine HC.mono ?_; rintro e w' ⟨rfl, hw⟩; subst w') | (go_at_call 55; refine HX.mono ?_; rintro e w' ⟨rfl, hw⟩; subst w'))
        go_ret2
        exact ⟨by rw [R.out]; rfl, (by (repeat' (first | assumption | exact Below.refl _ _ | refine Below.alloc ?_ ?_ _ | refine Below.setCell ?_ ?_ _ | refine Below.drew ?_ | refine below_drewN ?_ _)) <;> (first | omega | (simp <;> omega)))⟩
    · have f92 : ((s[0].toNat : Int) != 92) = true := ne_int' h92
      have hpre : pre s ⟨#[92, 120]⟩ = false := by
        by_cases h1 : 1 < s.size
        · rw [pre_two s h1, decide_eq_false h92]; rfl
        · exact pre_short s h1
      rw [hpre, if_neg (by decide)] at HC
      have R : Hid (Qm.nx s.data.toList = (0, 0)) := by unfold Hid; rw [D0.out]; exact Qm.nx_other _ _ hp h92
      clear h92 hpre
      go_enter Try.func39, Try.ntmps39
      go_wp2_with (first | (go_at_call 49; refine (standsForItself_any _ _).mono ?_; rintro e w' ⟨rfl, hw⟩; subst w') | (go_at_call 54; refine HC.mono ?_; rintro e w' ⟨rfl, hw⟩; subst w') | (go_at_call 55; refine HX.mono ?_; rintro e w' ⟨rfl, hw⟩; subst w'))
      go_ret2
      exact ⟨by rw [R.out]; rfl, (by (repeat' (first | assumption | exact Below.refl _ _ | refine Below.alloc ?_ ?_ _ | refine Below.setCell ?_ ?_ _ | refine Below.drew ?_ | refine below_drewN ?_ _)) <;> (first | omega | (simp <;> omega)))⟩
  · have R : Hid (Qm.nx s.data.toList = (s[0], 1)) := by unfold Hid; rw [D0.out]; exact Qm.nx_plain _ _ hp
    clear HC
    go_enter Try.func39, Try.ntmps39
    go_wp2_with (first | (go_at_call 49; refine (standsForItself_any _ _).mono ?_; rintro e w' ⟨rfl, hw⟩; subst w') | (go_at_call 54; refine HC.mono ?_; rintro e w' ⟨rfl, hw⟩; subst w') | (go_at_call 55; refine HX.mono ?_; rintro e w' ⟨rfl, hw⟩; subst w'))
    go_ret2
    exact ⟨by rw [R.out]; rfl, (by (repeat' (first | assumption | exact Below.refl _ _ | refine Below.alloc ?_ ?_ _ | refine Below.setCell ?_ ?_ _ | refine Below.drew ?_ | refine below_drewN ?_ _)) <;> (first | omega | (simp <;> omega)))⟩
end Go.Proofs.Ytkdilgmlabaehaa
