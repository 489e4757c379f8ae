/- The law FnDecMul walked. -/
import Derived.Test.YthpnbjigpdgmpaaDraw3
import Derived.Test.YthpnbjigpdgmpaaDecG
import Derived.Test.YthpnbjigpdgmpaaDm5
namespace Go.Proofs.Ythpnbjigpdgmpaa
open Go.RowKit
attribute [local go_sem] cell_alloc_is frozen_alloc_is

set_option maxHeartbeats 2000000 in
theorem walk_FnDecMul (a0 : Option Addr) (len0 cap0 : Nat) (z0 : List Int) (w : World) (w0 : IsRow .u8 w a0 len0 cap0 z0) :
    Calls Try.prog 6 #[.slice a0 len0 cap0] w fun e w' => e = .returned (.bool true) ∧ Below w.heap.size w w' := by
  have hc := codeIn_of w0
  have hcap : len0 ≤ 9223372036854775807 := by have h1 := hc.2.1; have h2 := hc.2.2.1; unfold maxLen at h2; omega
  by_cases hl : 1048576 < len0
  · clear hc w0
    go_enter Try.func6, Try.ntmps6
    go_wp2
    go_ret
    exact ⟨rfl, Below.refl _ _⟩
  · have hB0 : Below w.heap.size w w := Below.refl _ _
    clear w0
    go_enter Try.func6, Try.ntmps6
    go_wp2_with fail
    refine (drawMul_any _ _ _ _ hc).mono ?_
    rintro e w1 ⟨m, x, n, y, rfl, hm, hn, hb⟩
    have hB1 := below_step hB0 hb
    clear hb
    have HW := hideIt (Dm.mul_comm3 m x n y)
    go_wp2_with fail
    refine (iDecMul_any _ _ _ _ _).mono ?_
    rintro e w2 ⟨rfl, hb⟩
    have hBa2 := hB1
    have hBa2 := below_step hBa2 ((Below.refl _ _).alloc (Nat.le_refl _) (.cells #[.int .i64 m, .int .i64 x] 26))
    have Taa := Two.new w1 m x 26
    have hBa2 := below_step hBa2 ((Below.refl _ _).alloc (Nat.le_refl _) (.cells #[.int .i64 n, .int .i64 y] 26))
    have Taa := Taa.alloc (World.block_lt_of_cell? _ _ Taa.1) (.cells #[.int .i64 n, .int .i64 y] 26)
    have Tba := Two.new (w1.alloc (.cells #[.int .i64 m, .int .i64 x] 26)) n y 26
    rw [World.size_alloc] at Tba
    have hB2 := below_step hBa2 hb
    have Ta2 := Taa.below hb (World.block_lt_of_cell? _ _ Taa.1)
    have Tb2 := Tba.below hb (World.block_lt_of_cell? _ _ Tba.1)
    clear hBa2 Taa Tba
    clear hb
    obtain ⟨ca0, ca1, -, -⟩ := id Ta2
    obtain ⟨cb0, cb1, -, -⟩ := id Tb2
    go_wp2_with fail
    refine (iDecMul_any _ _ _ _ _).mono ?_
    rintro e w3 ⟨rfl, hb⟩
    have hBa3 := hB2
    have hBa3 := below_step hBa3 ((Below.refl _ _).alloc (Nat.le_refl _) (.cells #[.int .i64 (Dm.mul m x n y).1, .int .i64 (Dm.mul m x n y).2.1] 26))
    have Taa := Ta2.alloc (World.block_lt_of_cell? _ _ Ta2.1) (.cells #[.int .i64 (Dm.mul m x n y).1, .int .i64 (Dm.mul m x n y).2.1] 26)
    have Tba := Tb2.alloc (World.block_lt_of_cell? _ _ Tb2.1) (.cells #[.int .i64 (Dm.mul m x n y).1, .int .i64 (Dm.mul m x n y).2.1] 26)
    have Txa := Two.new w2 (Dm.mul m x n y).1 (Dm.mul m x n y).2.1 26
    have hB3 := below_step hBa3 hb
    have Ta3 := Taa.below hb (World.block_lt_of_cell? _ _ Taa.1)
    have Tb3 := Tba.below hb (World.block_lt_of_cell? _ _ Tba.1)
    have Tx3 := Txa.below hb (World.block_lt_of_cell? _ _ Txa.1)
    clear hBa3 Taa Tba Txa
    clear hb
    obtain ⟨ca0, ca1, -, -⟩ := id Ta3
    obtain ⟨cb0, cb1, -, -⟩ := id Tb3
    obtain ⟨cx0, cx1, -, -⟩ := id Tx3
    rw [HW.out]
    go_wp2_with fail
    refine (sDecMul_any _ _ _ _ _).mono ?_
    rintro e w4 ⟨rfl, hb⟩
    have hBa4 := hB3
    have hBa4 := below_step hBa4 ((Below.refl _ _).alloc (Nat.le_refl _) (.cells #[.int .i64 (Dm.mul m x n y).1, .int .i64 (Dm.mul m x n y).2.1] 26))
    have Taa := Ta3.alloc (World.block_lt_of_cell? _ _ Ta3.1) (.cells #[.int .i64 (Dm.mul m x n y).1, .int .i64 (Dm.mul m x n y).2.1] 26)
    have Tba := Tb3.alloc (World.block_lt_of_cell? _ _ Tb3.1) (.cells #[.int .i64 (Dm.mul m x n y).1, .int .i64 (Dm.mul m x n y).2.1] 26)
    have Txa := Tx3.alloc (World.block_lt_of_cell? _ _ Tx3.1) (.cells #[.int .i64 (Dm.mul m x n y).1, .int .i64 (Dm.mul m x n y).2.1] 26)
    have Tya := Two.new w3 (Dm.mul m x n y).1 (Dm.mul m x n y).2.1 26
    have hB4 := below_step hBa4 hb
    have Ta4 := Taa.below hb (World.block_lt_of_cell? _ _ Taa.1)
    have Tb4 := Tba.below hb (World.block_lt_of_cell? _ _ Tba.1)
    have Tx4 := Txa.below hb (World.block_lt_of_cell? _ _ Txa.1)
    have Ty4 := Tya.below hb (World.block_lt_of_cell? _ _ Tya.1)
    clear hBa4 Taa Tba Txa Tya
    clear hb
    obtain ⟨ca0, ca1, -, -⟩ := id Ta4
    obtain ⟨cb0, cb1, -, -⟩ := id Tb4
    obtain ⟨cx0, cx1, -, -⟩ := id Tx4
    obtain ⟨cy0, cy1, -, -⟩ := id Ty4
    go_wp2_with fail
    refine (sDecOk_any _ _ _).mono ?_
    rintro e w5 ⟨rfl, hb⟩
    have hBa5 := hB4
    have hBa5 := below_step hBa5 ((Below.refl _ _).alloc (Nat.le_refl _) (.cells #[.int .i64 (Dm.mul m x n y).1, .int .i64 (Dm.mul m x n y).2.1] 26))
    have Taa := Ta4.alloc (World.block_lt_of_cell? _ _ Ta4.1) (.cells #[.int .i64 (Dm.mul m x n y).1, .int .i64 (Dm.mul m x n y).2.1] 26)
    have Tba := Tb4.alloc (World.block_lt_of_cell? _ _ Tb4.1) (.cells #[.int .i64 (Dm.mul m x n y).1, .int .i64 (Dm.mul m x n y).2.1] 26)
    have Txa := Tx4.alloc (World.block_lt_of_cell? _ _ Tx4.1) (.cells #[.int .i64 (Dm.mul m x n y).1, .int .i64 (Dm.mul m x n y).2.1] 26)
    have Tya := Ty4.alloc (World.block_lt_of_cell? _ _ Ty4.1) (.cells #[.int .i64 (Dm.mul m x n y).1, .int .i64 (Dm.mul m x n y).2.1] 26)
    have Twanta := Two.new w4 (Dm.mul m x n y).1 (Dm.mul m x n y).2.1 26
    have hB5 := below_step hBa5 hb
    have Ta5 := Taa.below hb (World.block_lt_of_cell? _ _ Taa.1)
    have Tb5 := Tba.below hb (World.block_lt_of_cell? _ _ Tba.1)
    have Tx5 := Txa.below hb (World.block_lt_of_cell? _ _ Txa.1)
    have Ty5 := Tya.below hb (World.block_lt_of_cell? _ _ Tya.1)
    have Twant5 := Twanta.below hb (World.block_lt_of_cell? _ _ Twanta.1)
    clear hBa5 Taa Tba Txa Tya Twanta
    clear hb
    obtain ⟨ca0, ca1, -, -⟩ := id Ta5
    obtain ⟨cb0, cb1, -, -⟩ := id Tb5
    obtain ⟨cx0, cx1, -, -⟩ := id Tx5
    obtain ⟨cy0, cy1, -, -⟩ := id Ty5
    obtain ⟨cwant0, cwant1, -, -⟩ := id Twant5
    cases hok : Dm.ok m x
    · go_wp2_with fail
      go_ret
      exact ⟨rfl, hB5⟩
    · have HO := hideIt (Dm.mul_one3 hok)
      have HZ := hideIt (Dm.mul_zero3 hok)
      clear HW
      go_wp2_with fail
      refine (iDecMul_any _ _ _ _ _).mono ?_
      rintro e w6 ⟨rfl, hb⟩
      have hB6 := below_step hB5 hb
      have Ta6 := Ta5.below hb (World.block_lt_of_cell? _ _ Ta5.1)
      have Tb6 := Tb5.below hb (World.block_lt_of_cell? _ _ Tb5.1)
      have Tx6 := Tx5.below hb (World.block_lt_of_cell? _ _ Tx5.1)
      have Ty6 := Ty5.below hb (World.block_lt_of_cell? _ _ Ty5.1)
      have Twant6 := Twant5.below hb (World.block_lt_of_cell? _ _ Twant5.1)
      clear hb
      obtain ⟨ca0, ca1, -, -⟩ := id Ta6
      obtain ⟨cb0, cb1, -, -⟩ := id Tb6
      obtain ⟨cx0, cx1, -, -⟩ := id Tx6
      obtain ⟨cy0, cy1, -, -⟩ := id Ty6
      obtain ⟨cwant0, cwant1, -, -⟩ := id Twant6
      rw [HO.out]
      clear HO
      go_wp2_with fail
      refine (iDecMul_any _ _ _ _ _).mono ?_
      rintro e w7 ⟨rfl, hb⟩
      have hBa7 := hB6
      have hBa7 := below_step hBa7 ((Below.refl _ _).alloc (Nat.le_refl _) (.cells #[.int .i64 m, .int .i64 x] 26))
      have Taa := Ta6.alloc (World.block_lt_of_cell? _ _ Ta6.1) (.cells #[.int .i64 m, .int .i64 x] 26)
      have Tba := Tb6.alloc (World.block_lt_of_cell? _ _ Tb6.1) (.cells #[.int .i64 m, .int .i64 x] 26)
      have Txa := Tx6.alloc (World.block_lt_of_cell? _ _ Tx6.1) (.cells #[.int .i64 m, .int .i64 x] 26)
      have Tya := Ty6.alloc (World.block_lt_of_cell? _ _ Ty6.1) (.cells #[.int .i64 m, .int .i64 x] 26)
      have Twanta := Twant6.alloc (World.block_lt_of_cell? _ _ Twant6.1) (.cells #[.int .i64 m, .int .i64 x] 26)
      have Tonea := Two.new w6 m x 26
      have hB7 := below_step hBa7 hb
      have Ta7 := Taa.below hb (World.block_lt_of_cell? _ _ Taa.1)
      have Tb7 := Tba.below hb (World.block_lt_of_cell? _ _ Tba.1)
      have Tx7 := Txa.below hb (World.block_lt_of_cell? _ _ Txa.1)
      have Ty7 := Tya.below hb (World.block_lt_of_cell? _ _ Tya.1)
      have Twant7 := Twanta.below hb (World.block_lt_of_cell? _ _ Twanta.1)
      have Tone7 := Tonea.below hb (World.block_lt_of_cell? _ _ Tonea.1)
      clear hBa7 Taa Tba Txa Tya Twanta Tonea
      clear hb
      obtain ⟨ca0, ca1, -, -⟩ := id Ta7
      obtain ⟨cb0, cb1, -, -⟩ := id Tb7
      obtain ⟨cx0, cx1, -, -⟩ := id Tx7
      obtain ⟨cy0, cy1, -, -⟩ := id Ty7
      obtain ⟨cwant0, cwant1, -, -⟩ := id Twant7
      obtain ⟨cone0, cone1, -, -⟩ := id Tone7
      rw [HZ.out]
      clear HZ
      go_wp2_with fail
      go_ret
      exact ⟨rfl, below_step hB7 ((Below.refl _ _).alloc (Nat.le_refl _) _)⟩
end Go.Proofs.Ythpnbjigpdgmpaa
