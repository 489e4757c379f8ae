/- The law FnDecSub walked. -/
import Derived.Test.YthpnbjigpdgmpaaDraw3
import Derived.Test.YthpnbjigpdgmpaaDecG
import Derived.Test.YthpnbjigpdgmpaaDm5
namespace Go.Proofs.Ythpnbjigpdgmpaa
open Go.RowKit
attribute [local go_sem] cell_alloc_is frozen_alloc_is

set_option maxHeartbeats 2000000 in
theorem walk_FnDecSub (a0 : Option Addr) (len0 cap0 : Nat) (z0 : List Int) (w : World) (w0 : IsRow .u8 w a0 len0 cap0 z0) :
    Calls Try.prog 5 #[.slice a0 len0 cap0] w fun e w' => e = .returned (.bool true) ∧ Below w.heap.size w w' := by
  have hc := codeIn_of w0
  have hcap : len0 ≤ 9223372036854775807 := by have h1 := hc.2.1; have h2 := hc.2.2.1; unfold maxLen at h2; omega
  by_cases hl : 1048576 < len0
  · clear hc w0
    go_enter Try.func5, Try.ntmps5
    go_wp2
    go_ret
    exact ⟨rfl, Below.refl _ _⟩
  · have hB0 : Below w.heap.size w w := Below.refl _ _
    clear w0
    go_enter Try.func5, Try.ntmps5
    go_wp2_with fail
    refine (drawSub_any _ _ _ _ hc).mono ?_
    rintro e w1 ⟨m, x, n, y, rfl, hm, hn, hb⟩
    have hB1 := below_step hB0 hb
    clear hb
    obtain ⟨m1, m2, x1, x2⟩ := hm
    obtain ⟨n1, n2, y1, y2⟩ := hn
    have HW := hideIt (Dm.sub_swap m x n y)
    have HO := hideIt (@Dm.sub_ok m x n y)
    have hbd := Dm.sub_i64 m x n y
    obtain ⟨hbd1, hbd2⟩ := hbd
    go_wp2_with fail
    refine (iDecSub_any _ _ _ _ _ (by omega) (by omega)).mono ?_
    rintro e w2 ⟨rfl, hb⟩
    have hBa2 := hB1
    have hBa2 := below_step hBa2 ((Below.refl _ _).alloc (Nat.le_refl _) (.cells #[.int .i64 m, .int .i64 x] 26))
    have Taa := Two.new w1 m x 26
    have hBa2 := below_step hBa2 ((Below.refl _ _).alloc (Nat.le_refl _) (.cells #[.int .i64 n, .int .i64 y] 26))
    have Taa := Taa.alloc (World.block_lt_of_cell? _ _ Taa.1) (.cells #[.int .i64 n, .int .i64 y] 26)
    have Tba := Two.new (w1.alloc (.cells #[.int .i64 m, .int .i64 x] 26)) n y 26
    rw [World.size_alloc] at Tba
    have hB2 := below_step hBa2 hb
    have Ta2 := Taa.below hb (World.block_lt_of_cell? _ _ Taa.1)
    have Tb2 := Tba.below hb (World.block_lt_of_cell? _ _ Tba.1)
    clear hBa2 Taa Tba
    clear hb
    obtain ⟨ca0, ca1, -, -⟩ := id Ta2
    obtain ⟨cb0, cb1, -, -⟩ := id Tb2
    go_wp2_with fail
    refine (sDecSub_any _ _ _ _ _).mono ?_
    rintro e w3 ⟨rfl, hb⟩
    have hBa3 := hB2
    have hBa3 := below_step hBa3 ((Below.refl _ _).alloc (Nat.le_refl _) (.cells #[.int .i64 (Dm.sub m x n y).1, .int .i64 (Dm.sub m x n y).2.1] 26))
    have Taa := Ta2.alloc (World.block_lt_of_cell? _ _ Ta2.1) (.cells #[.int .i64 (Dm.sub m x n y).1, .int .i64 (Dm.sub m x n y).2.1] 26)
    have Tba := Tb2.alloc (World.block_lt_of_cell? _ _ Tb2.1) (.cells #[.int .i64 (Dm.sub m x n y).1, .int .i64 (Dm.sub m x n y).2.1] 26)
    have Txa := Two.new w2 (Dm.sub m x n y).1 (Dm.sub m x n y).2.1 26
    have hB3 := below_step hBa3 hb
    have Ta3 := Taa.below hb (World.block_lt_of_cell? _ _ Taa.1)
    have Tb3 := Tba.below hb (World.block_lt_of_cell? _ _ Tba.1)
    have Tx3 := Txa.below hb (World.block_lt_of_cell? _ _ Txa.1)
    clear hBa3 Taa Tba Txa
    clear hb
    obtain ⟨ca0, ca1, -, -⟩ := id Ta3
    obtain ⟨cb0, cb1, -, -⟩ := id Tb3
    obtain ⟨cx0, cx1, -, -⟩ := id Tx3
    cases hok : (Dm.sub m x n y).2.2
    · go_wp2_with fail
      go_ret
      exact ⟨rfl, below_step hB3 ((Below.refl _ _).alloc (Nat.le_refl _) _)⟩
    · have ho := (HO.out hok).1
      have HSS := hideIt (Dm.sub_self ho)
      clear HO ho
      go_wp2_with fail
      refine (iDecSub_any _ _ _ _ _ (by omega) (by omega)).mono ?_
      rintro e w4 ⟨rfl, hb⟩
      have hBa4 := hB3
      have hBa4 := below_step hBa4 ((Below.refl _ _).alloc (Nat.le_refl _) (.cells #[.int .i64 (Dm.sub m x n y).1, .int .i64 (Dm.sub m x n y).2.1] 26))
      have Taa := Ta3.alloc (World.block_lt_of_cell? _ _ Ta3.1) (.cells #[.int .i64 (Dm.sub m x n y).1, .int .i64 (Dm.sub m x n y).2.1] 26)
      have Tba := Tb3.alloc (World.block_lt_of_cell? _ _ Tb3.1) (.cells #[.int .i64 (Dm.sub m x n y).1, .int .i64 (Dm.sub m x n y).2.1] 26)
      have Txa := Tx3.alloc (World.block_lt_of_cell? _ _ Tx3.1) (.cells #[.int .i64 (Dm.sub m x n y).1, .int .i64 (Dm.sub m x n y).2.1] 26)
      have Twanta := Two.new w3 (Dm.sub m x n y).1 (Dm.sub m x n y).2.1 26
      have hB4 := below_step hBa4 hb
      have Ta4 := Taa.below hb (World.block_lt_of_cell? _ _ Taa.1)
      have Tb4 := Tba.below hb (World.block_lt_of_cell? _ _ Tba.1)
      have Tx4 := Txa.below hb (World.block_lt_of_cell? _ _ Txa.1)
      have Twant4 := Twanta.below hb (World.block_lt_of_cell? _ _ Twanta.1)
      clear hBa4 Taa Tba Txa Twanta
      clear hb
      obtain ⟨ca0, ca1, -, -⟩ := id Ta4
      obtain ⟨cb0, cb1, -, -⟩ := id Tb4
      obtain ⟨cx0, cx1, -, -⟩ := id Tx4
      obtain ⟨cwant0, cwant1, -, -⟩ := id Twant4
      rw [HW.out]
      simp only [Dm.neg3]
      rw [hok]
      clear HW
      go_wp2_with fail
      refine (iDecSub_any _ _ _ _ _ (by omega) (by omega)).mono ?_
      rintro e w5 ⟨rfl, hb⟩
      have hBa5 := hB4
      have hBa5 := below_step hBa5 ((Below.refl _ _).alloc (Nat.le_refl _) (.cells #[.int .i64 (-(Dm.sub m x n y).1), .int .i64 (Dm.sub m x n y).2.1] 26))
      have Taa := Ta4.alloc (World.block_lt_of_cell? _ _ Ta4.1) (.cells #[.int .i64 (-(Dm.sub m x n y).1), .int .i64 (Dm.sub m x n y).2.1] 26)
      have Tba := Tb4.alloc (World.block_lt_of_cell? _ _ Tb4.1) (.cells #[.int .i64 (-(Dm.sub m x n y).1), .int .i64 (Dm.sub m x n y).2.1] 26)
      have Txa := Tx4.alloc (World.block_lt_of_cell? _ _ Tx4.1) (.cells #[.int .i64 (-(Dm.sub m x n y).1), .int .i64 (Dm.sub m x n y).2.1] 26)
      have Twanta := Twant4.alloc (World.block_lt_of_cell? _ _ Twant4.1) (.cells #[.int .i64 (-(Dm.sub m x n y).1), .int .i64 (Dm.sub m x n y).2.1] 26)
      have Tya := Two.new w4 (-(Dm.sub m x n y).1) (Dm.sub m x n y).2.1 26
      have hB5 := below_step hBa5 hb
      have Ta5 := Taa.below hb (World.block_lt_of_cell? _ _ Taa.1)
      have Tb5 := Tba.below hb (World.block_lt_of_cell? _ _ Tba.1)
      have Tx5 := Txa.below hb (World.block_lt_of_cell? _ _ Txa.1)
      have Twant5 := Twanta.below hb (World.block_lt_of_cell? _ _ Twanta.1)
      have Ty5 := Tya.below hb (World.block_lt_of_cell? _ _ Tya.1)
      clear hBa5 Taa Tba Txa Twanta Tya
      clear hb
      obtain ⟨ca0, ca1, -, -⟩ := id Ta5
      obtain ⟨cb0, cb1, -, -⟩ := id Tb5
      obtain ⟨cx0, cx1, -, -⟩ := id Tx5
      obtain ⟨cwant0, cwant1, -, -⟩ := id Twant5
      obtain ⟨cy0, cy1, -, -⟩ := id Ty5
      rw [HSS.out]
      clear HSS
      generalize Dm.sub m x n y = r at *
      go_wp2_with fail
      go_ret
      exact ⟨rfl, below_step hB5 ((Below.refl _ _).alloc (Nat.le_refl _) _)⟩
end Go.Proofs.Ythpnbjigpdgmpaa
