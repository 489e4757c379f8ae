/- The law FnDecNew walked. -/
import Derived.Test.YthpnbjigpdgmpaaDraw4
namespace Go.Proofs.Ythpnbjigpdgmpaa
open Go.RowKit
attribute [local go_sem] cell_alloc_is frozen_alloc_is

set_option maxHeartbeats 2000000 in
theorem walk_FnDecNew (a0 : Option Addr) (len0 cap0 : Nat) (z0 : List Int) (w : World) (w0 : IsRow .u8 w a0 len0 cap0 z0) :
    Calls Try.prog 3 #[.slice a0 len0 cap0] w fun e w' => e = .returned (.bool true) ∧ Below w.heap.size w w' := by
  have hc := codeIn_of w0
  have hcap : len0 ≤ 9223372036854775807 := by have h1 := hc.2.1; have h2 := hc.2.2.1; unfold maxLen at h2; omega
  by_cases hl : 1048576 < len0
  · clear hc w0
    go_enter Try.func3, Try.ntmps3
    go_wp2
    go_ret
    exact ⟨rfl, Below.refl _ _⟩
  · have hB0 : Below w.heap.size w w := Below.refl _ _
    clear w0
    go_enter Try.func3, Try.ntmps3
    go_wp2_with fail
    refine (drawNew_any _ _ _ _ hc).mono ?_
    rintro e w1 ⟨m, x, rfl, ⟨mb1, mb2⟩, ⟨xb1, xb2⟩, hb⟩
    have hB1 := below_step hB0 hb
    clear hb
    go_wp2_with fail
    refine (iDecNew_any _ _ _).mono ?_
    rintro e w2 ⟨rfl, hb⟩
    have hB2 := below_step hB1 hb
    clear hb
    go_wp2_with fail
    refine (sDecNew_any _ _ _).mono ?_
    rintro e w3 ⟨rfl, hb⟩
    have hBa3 := hB2
    have hBa3 := below_step hBa3 ((Below.refl _ _).alloc (Nat.le_refl _) (.cells #[.int .i64 (Dm.new m x).1, .int .i64 (Dm.new m x).2.1] 26))
    have Tda := Two.new w2 (Dm.new m x).1 (Dm.new m x).2.1 26
    have hB3 := below_step hBa3 hb
    have Td3 := Tda.below hb (World.block_lt_of_cell? _ _ Tda.1)
    clear hBa3 Tda
    clear hb
    obtain ⟨cd0, cd1, -, -⟩ := id Td3
    cases hok : (Dm.new m x).2.2
    · go_wp2_with fail
      go_ret
      exact ⟨rfl, below_step hB3 ((Below.refl _ _).alloc (Nat.le_refl _) _)⟩
    · obtain ⟨hno, hdok, hnz, hz⟩ := Dm.new_facts hok
      have HDOK := hideIt hdok
      clear hdok
      generalize Dm.new m x = r at *
      obtain ⟨k, z, rb⟩ := r
      simp only at *
      obtain ⟨k1, k2, z1, z2⟩ := Dm.ok_bd HDOK.out
      by_cases hm0 : m = 0
      · have hz0 : (m == 0) = true := by simp [hm0]
        have hz1 : (m != 0) = false := by simp [hm0]
        have hkk := hz hm0
        obtain ⟨hk0, hzz⟩ := hkk
        subst hk0 hzz
        clear hz hnz hno
        have hk3 : (0 == m) = true := by simp [hm0]
        clear hm0
        go_wp2_with fail
        go_loop [9, 10] (fun a b => a = .int .i64 0 ∧ b = .int .i64 0) (fun _ _ => 0)
        case atStart => exact ⟨rfl, rfl⟩
        case round =>
          obtain ⟨rfl, rfl⟩ := hrel
          by_cases hx : x < 0
          · skip
            go_wp2_with fail
            refine (iDecOk_any _ _ _).mono ?_
            rintro e w5 ⟨rfl, hb⟩
            have hdk := HDOK.out
            have hfin := below_step (below_step hB3 ((Below.refl _ _).alloc (Nat.le_refl _) _)) hb
            clear hb
            go_wp2_with fail
            go_ret
            exact ⟨rfl, hfin⟩
          · have hx' : decide (x < 0) = false := by simp; omega
            go_wp2_with fail
            refine (iDecOk_any _ _ _).mono ?_
            rintro e w5 ⟨rfl, hb⟩
            have hdk := HDOK.out
            have hfin := below_step (below_step hB3 ((Below.refl _ _).alloc (Nat.le_refl _) _)) hb
            clear hb
            go_wp2_with fail
            go_ret
            exact ⟨rfl, hfin⟩
      · have hz0 : (m == 0) = false := by simp [hm0]
        have hz1 : (m != 0) = true := by simp [hm0]
        obtain ⟨hxz, hmk⟩ := hno hm0
        have HMK := hideIt hmk
        have hkt : (k.tmod 10 != 0) = true := by have := hnz hm0; simpa using this
        clear hz hnz hno hmk
        go_wp2_with fail
        go_loop [9, 10] (fun a b => ∃ n' e' : Int, a = .int .i64 n' ∧ b = .int .i64 e' ∧ x ≤ e' ∧ e' ≤ z ∧ n' = k * Dm.p10 (z - e')) (fun _ b => (intOf b - x).toNat)
        case atStart => exact ⟨k, z, rfl, rfl, hxz, Int.le_refl _, by rw [Int.sub_self, Dm.p10_zero, Int.mul_one]⟩
        case round =>
          obtain ⟨n', e', rfl, rfl, he1, he2, hn'⟩ := hrel
          have HN := hideIt hn'
          clear hn'
          by_cases hlt : x < e'
          · have hbd := Dm.mul_mono (k := k) (a := z - (e' - 1)) (b := z - x) (by omega)
            rw [← HMK.out, show z - (e' - 1) = (z - e') + 1 from by omega, Dm.p10_succ _ (by omega), ← Int.mul_assoc, ← HN.out] at hbd
            have b1 : -100000000000000001 ≤ n' * 10 := by omega
            have b2 : n' * 10 ≤ 100000000000000001 := by omega
            clear hbd
            have HS : Hid (n' * 10 = k * Dm.p10 (z - (e' - 1))) := by
              unfold Hid; rw [HN.out, show z - (e' - 1) = (z - e') + 1 from by omega, Dm.p10_succ _ (by omega), Int.mul_assoc]
            go_wp2_with fail
            go_round
            case rel => exact ⟨_, e' - 1, rfl, rfl, by omega, by omega, HS.out⟩
            case measure => simp [intOf]; omega
          · have he : e' = x := by omega
            subst he
            have hnm : (n' == m) = true := by rw [HN.out, HMK.out]; simp
            have hlt2 : decide (e' < e') = false := by simp
            clear HN
            go_wp2_with fail
            refine (iDecOk_any _ _ _).mono ?_
            rintro e w5 ⟨rfl, hb⟩
            have hdk := HDOK.out
            have hfin := below_step (below_step hB3 ((Below.refl _ _).alloc (Nat.le_refl _) _)) hb
            have cd0 := (bsome hb).1
            clear hb
            go_wp2_with fail
            go_ret
            exact ⟨rfl, hfin⟩
end Go.Proofs.Ythpnbjigpdgmpaa
