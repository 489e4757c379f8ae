/- The law FnDecOrder walked. -/
import Derived.Test.YthpnbjigpdgmpaaDraw3
import Derived.Test.YthpnbjigpdgmpaaDecN
import Derived.Test.YthpnbjigpdgmpaaDecG
import Derived.Test.YthpnbjigpdgmpaaDm8
namespace Go.Proofs.Ythpnbjigpdgmpaa
open Go.RowKit
attribute [local go_sem] cell_alloc_is frozen_alloc_is

set_option maxHeartbeats 4000000 in
theorem walk_FnDecOrder (a0 : Option Addr) (len0 cap0 : Nat) (z0 : List Int) (a1 : Option Addr) (len1 cap1 : Nat) (z1 : List Int) (w : World) (w0 : IsRow .u8 w a0 len0 cap0 z0) (v0 : IsRow .u8 w a1 len1 cap1 z1) :
    Calls Try.prog 11 #[.slice a0 len0 cap0, .slice a1 len1 cap1] w fun e w' => e = .returned (.bool true) ∧ Below w.heap.size w w' := by
  have hc := codeIn_of w0
  have hd := codeIn_of v0
  have hcap : len0 ≤ 9223372036854775807 := by have h1 := hc.2.1; have h2 := hc.2.2.1; unfold maxLen at h2; omega
  have hcap1 : len1 ≤ 9223372036854775807 := by have h1 := hd.2.1; have h2 := hd.2.2.1; unfold maxLen at h2; omega
  by_cases hl : 1048576 < len0
  · clear hc w0 hd v0
    go_enter Try.func11, Try.ntmps11
    go_wp2
    go_ret
    exact ⟨rfl, Below.refl _ _⟩
  · have hlb : decide ((1048576 : Int) < (len0 : Int)) = false := by simp; omega
    by_cases hl1 : 1048576 < len1
    · clear hc w0 hd v0
      go_enter Try.func11, Try.ntmps11
      go_wp2
      go_ret
      exact ⟨rfl, Below.refl _ _⟩
    · have hlb1 : decide ((1048576 : Int) < (len1 : Int)) = false := by simp; omega
      have hB0 : Below w.heap.size w w := Below.refl _ _
      clear w0 v0 hl hl1
      go_enter Try.func11, Try.ntmps11
      go_wp2_with fail
      refine (drawCmp_any _ _ _ _ hc).mono ?_
      rintro e w1 ⟨m, x, n, y, rfl, hm, hn, hb⟩
      have hB1 := below_step hB0 hb
      clear hb
      go_wp2_with fail
      refine (drawCmp_any _ _ _ _ (hd.below (below_step (below_step hB1 ((Below.refl _ _).alloc (Nat.le_refl _) _)) ((Below.refl _ _).alloc (Nat.le_refl _) _)))).mono ?_
      rintro e w2 ⟨c, z, c2, z2, rfl, hcc, hcd, hb⟩
      have hBa2 := hB1
      have hBa2 := below_step hBa2 ((Below.refl _ _).alloc (Nat.le_refl _) (.cells #[.int .i64 m, .int .i64 x] 26))
      have Taa := Two.new w1 m x 26
      have hBa2 := below_step hBa2 ((Below.refl _ _).alloc (Nat.le_refl _) (.cells #[.int .i64 n, .int .i64 y] 26))
      have Taa := Taa.alloc (World.block_lt_of_cell? _ _ Taa.1) (.cells #[.int .i64 n, .int .i64 y] 26)
      have Tba := Two.new (w1.alloc (.cells #[.int .i64 m, .int .i64 x] 26)) n y 26
      rw [World.size_alloc] at Tba
      have hB2 := below_step hBa2 hb
      have Ta2 := Taa.below hb (World.block_lt_of_cell? _ _ Taa.1)
      have Tb2 := Tba.below hb (World.block_lt_of_cell? _ _ Tba.1)
      clear hBa2 Taa Tba
      clear hb
      obtain ⟨ca0, ca1, -, -⟩ := id Ta2
      obtain ⟨cb0, cb1, -, -⟩ := id Tb2
      obtain ⟨kb1, kb2⟩ := Dm.cmp_bd m x n y
      go_wp2_with fail
      refine (iDecCmp_any _ _ _ _ _).mono ?_
      rintro e w3 ⟨rfl, hb⟩
      have hBa3 := hB2
      have hBa3 := below_step hBa3 ((Below.refl _ _).alloc (Nat.le_refl _) (.cells #[.int .i64 c, .int .i64 z] 26))
      have Taa := Ta2.alloc (World.block_lt_of_cell? _ _ Ta2.1) (.cells #[.int .i64 c, .int .i64 z] 26)
      have Tba := Tb2.alloc (World.block_lt_of_cell? _ _ Tb2.1) (.cells #[.int .i64 c, .int .i64 z] 26)
      have Tca := Two.new w2 c z 26
      have hBa3 := below_step hBa3 ((Below.refl _ _).alloc (Nat.le_refl _) (.cells #[.int .i64 c2, .int .i64 z2] 26))
      have Taa := Taa.alloc (World.block_lt_of_cell? _ _ Taa.1) (.cells #[.int .i64 c2, .int .i64 z2] 26)
      have Tba := Tba.alloc (World.block_lt_of_cell? _ _ Tba.1) (.cells #[.int .i64 c2, .int .i64 z2] 26)
      have Tca := Tca.alloc (World.block_lt_of_cell? _ _ Tca.1) (.cells #[.int .i64 c2, .int .i64 z2] 26)
      have Tcca := Two.new (w2.alloc (.cells #[.int .i64 c, .int .i64 z] 26)) c2 z2 26
      rw [World.size_alloc] at Tcca
      have hB3 := below_step hBa3 hb
      have Ta3 := Taa.below hb (World.block_lt_of_cell? _ _ Taa.1)
      have Tb3 := Tba.below hb (World.block_lt_of_cell? _ _ Tba.1)
      have Tc3 := Tca.below hb (World.block_lt_of_cell? _ _ Tca.1)
      have Tcc3 := Tcca.below hb (World.block_lt_of_cell? _ _ Tcca.1)
      clear hBa3 Taa Tba Tca Tcca
      clear hb
      obtain ⟨ca0, ca1, -, -⟩ := id Ta3
      obtain ⟨cb0, cb1, -, -⟩ := id Tb3
      obtain ⟨cc0, cc1, -, -⟩ := id Tc3
      obtain ⟨ccc0, ccc1, -, -⟩ := id Tcc3
      go_wp2_with fail
      refine (sDecCmp_any _ _ _ _ _).mono ?_
      rintro e w4 ⟨rfl, hb⟩
      have hB4 := below_step hB3 hb
      have Ta4 := Ta3.below hb (World.block_lt_of_cell? _ _ Ta3.1)
      have Tb4 := Tb3.below hb (World.block_lt_of_cell? _ _ Tb3.1)
      have Tc4 := Tc3.below hb (World.block_lt_of_cell? _ _ Tc3.1)
      have Tcc4 := Tcc3.below hb (World.block_lt_of_cell? _ _ Tcc3.1)
      clear hb
      obtain ⟨ca0, ca1, -, -⟩ := id Ta4
      obtain ⟨cb0, cb1, -, -⟩ := id Tb4
      obtain ⟨cc0, cc1, -, -⟩ := id Tc4
      obtain ⟨ccc0, ccc1, -, -⟩ := id Tcc4
      go_wp2_with fail
      refine (sDecOk_any _ _ _).mono ?_
      rintro e w5 ⟨rfl, hb⟩
      have hB5 := below_step hB4 hb
      have Ta5 := Ta4.below hb (World.block_lt_of_cell? _ _ Ta4.1)
      have Tb5 := Tb4.below hb (World.block_lt_of_cell? _ _ Tb4.1)
      have Tc5 := Tc4.below hb (World.block_lt_of_cell? _ _ Tc4.1)
      have Tcc5 := Tcc4.below hb (World.block_lt_of_cell? _ _ Tcc4.1)
      clear hb
      obtain ⟨ca0, ca1, -, -⟩ := id Ta5
      obtain ⟨cb0, cb1, -, -⟩ := id Tb5
      obtain ⟨cc0, cc1, -, -⟩ := id Tc5
      obtain ⟨ccc0, ccc1, -, -⟩ := id Tcc5
      cases hoa : Dm.ok m x
      · go_wp2_with fail
        refine (sDecCmp_any _ _ _ _ _).mono ?_
        rintro e w6 ⟨rfl, hb⟩
        have hB6 := below_step hB5 hb
        have Ta6 := Ta5.below hb (World.block_lt_of_cell? _ _ Ta5.1)
        have Tb6 := Tb5.below hb (World.block_lt_of_cell? _ _ Tb5.1)
        have Tc6 := Tc5.below hb (World.block_lt_of_cell? _ _ Tc5.1)
        have Tcc6 := Tcc5.below hb (World.block_lt_of_cell? _ _ Tcc5.1)
        clear hb
        obtain ⟨ca0, ca1, -, -⟩ := id Ta6
        obtain ⟨cb0, cb1, -, -⟩ := id Tb6
        obtain ⟨cc0, cc1, -, -⟩ := id Tc6
        obtain ⟨ccc0, ccc1, -, -⟩ := id Tcc6
        go_wp2_with fail
        go_ret
        exact ⟨rfl, hB6⟩
      · skip
        go_wp2_with fail
        refine (sDecOk_any _ _ _).mono ?_
        rintro e w6 ⟨rfl, hb⟩
        have hB6 := below_step hB5 hb
        have Ta6 := Ta5.below hb (World.block_lt_of_cell? _ _ Ta5.1)
        have Tb6 := Tb5.below hb (World.block_lt_of_cell? _ _ Tb5.1)
        have Tc6 := Tc5.below hb (World.block_lt_of_cell? _ _ Tc5.1)
        have Tcc6 := Tcc5.below hb (World.block_lt_of_cell? _ _ Tcc5.1)
        clear hb
        obtain ⟨ca0, ca1, -, -⟩ := id Ta6
        obtain ⟨cb0, cb1, -, -⟩ := id Tb6
        obtain ⟨cc0, cc1, -, -⟩ := id Tc6
        obtain ⟨ccc0, ccc1, -, -⟩ := id Tcc6
        cases hob : Dm.ok n y
        · go_wp2_with fail
          refine (sDecCmp_any _ _ _ _ _).mono ?_
          rintro e w7 ⟨rfl, hb⟩
          have hB7 := below_step hB6 hb
          have Ta7 := Ta6.below hb (World.block_lt_of_cell? _ _ Ta6.1)
          have Tb7 := Tb6.below hb (World.block_lt_of_cell? _ _ Tb6.1)
          have Tc7 := Tc6.below hb (World.block_lt_of_cell? _ _ Tc6.1)
          have Tcc7 := Tcc6.below hb (World.block_lt_of_cell? _ _ Tcc6.1)
          clear hb
          obtain ⟨ca0, ca1, -, -⟩ := id Ta7
          obtain ⟨cb0, cb1, -, -⟩ := id Tb7
          obtain ⟨cc0, cc1, -, -⟩ := id Tc7
          obtain ⟨ccc0, ccc1, -, -⟩ := id Tcc7
          go_wp2_with fail
          go_ret
          exact ⟨rfl, hB7⟩
        · skip
          go_wp2_with fail
          refine (sDecOk_any _ _ _).mono ?_
          rintro e w7 ⟨rfl, hb⟩
          have hB7 := below_step hB6 hb
          have Ta7 := Ta6.below hb (World.block_lt_of_cell? _ _ Ta6.1)
          have Tb7 := Tb6.below hb (World.block_lt_of_cell? _ _ Tb6.1)
          have Tc7 := Tc6.below hb (World.block_lt_of_cell? _ _ Tc6.1)
          have Tcc7 := Tcc6.below hb (World.block_lt_of_cell? _ _ Tcc6.1)
          clear hb
          obtain ⟨ca0, ca1, -, -⟩ := id Ta7
          obtain ⟨cb0, cb1, -, -⟩ := id Tb7
          obtain ⟨cc0, cc1, -, -⟩ := id Tc7
          obtain ⟨ccc0, ccc1, -, -⟩ := id Tcc7
          cases hoc : Dm.ok c z
          · go_wp2_with fail
            refine (sDecCmp_any _ _ _ _ _).mono ?_
            rintro e w8 ⟨rfl, hb⟩
            have hB8 := below_step hB7 hb
            have Ta8 := Ta7.below hb (World.block_lt_of_cell? _ _ Ta7.1)
            have Tb8 := Tb7.below hb (World.block_lt_of_cell? _ _ Tb7.1)
            have Tc8 := Tc7.below hb (World.block_lt_of_cell? _ _ Tc7.1)
            have Tcc8 := Tcc7.below hb (World.block_lt_of_cell? _ _ Tcc7.1)
            clear hb
            obtain ⟨ca0, ca1, -, -⟩ := id Ta8
            obtain ⟨cb0, cb1, -, -⟩ := id Tb8
            obtain ⟨cc0, cc1, -, -⟩ := id Tc8
            obtain ⟨ccc0, ccc1, -, -⟩ := id Tcc8
            go_wp2_with fail
            go_ret
            exact ⟨rfl, hB8⟩
          · skip
            have HT := hideIt (@Dm.cmp_trans m x n y c z hoa hob hoc)
            have HA := hideIt (@Dm.cmp_add m x n y c z)
            have hk : Dm.cmp m x n y = 1 ∨ Dm.cmp m x n y ≤ 0 := by omega
            rcases hk with hk | hk
            · go_wp2_with fail
              refine (iDecAdd_any _ _ _ _ _).mono ?_
              rintro e w8 ⟨rfl, hb⟩
              have hB8 := below_step hB7 hb
              have Ta8 := Ta7.below hb (World.block_lt_of_cell? _ _ Ta7.1)
              have Tb8 := Tb7.below hb (World.block_lt_of_cell? _ _ Tb7.1)
              have Tc8 := Tc7.below hb (World.block_lt_of_cell? _ _ Tc7.1)
              have Tcc8 := Tcc7.below hb (World.block_lt_of_cell? _ _ Tcc7.1)
              clear hb
              obtain ⟨ca0, ca1, -, -⟩ := id Ta8
              obtain ⟨cb0, cb1, -, -⟩ := id Tb8
              obtain ⟨cc0, cc1, -, -⟩ := id Tc8
              obtain ⟨ccc0, ccc1, -, -⟩ := id Tcc8
              go_wp2_with fail
              refine (iDecAdd_any _ _ _ _ _).mono ?_
              rintro e w9 ⟨rfl, hb⟩
              have hBa9 := hB8
              have hBa9 := below_step hBa9 ((Below.refl _ _).alloc (Nat.le_refl _) (.cells #[.int .i64 (Dm.add m x c z).1, .int .i64 (Dm.add m x c z).2.1] 26))
              have Taa := Ta8.alloc (World.block_lt_of_cell? _ _ Ta8.1) (.cells #[.int .i64 (Dm.add m x c z).1, .int .i64 (Dm.add m x c z).2.1] 26)
              have Tba := Tb8.alloc (World.block_lt_of_cell? _ _ Tb8.1) (.cells #[.int .i64 (Dm.add m x c z).1, .int .i64 (Dm.add m x c z).2.1] 26)
              have Tca := Tc8.alloc (World.block_lt_of_cell? _ _ Tc8.1) (.cells #[.int .i64 (Dm.add m x c z).1, .int .i64 (Dm.add m x c z).2.1] 26)
              have Tcca := Tcc8.alloc (World.block_lt_of_cell? _ _ Tcc8.1) (.cells #[.int .i64 (Dm.add m x c z).1, .int .i64 (Dm.add m x c z).2.1] 26)
              have Txa := Two.new w8 (Dm.add m x c z).1 (Dm.add m x c z).2.1 26
              have hB9 := below_step hBa9 hb
              have Ta9 := Taa.below hb (World.block_lt_of_cell? _ _ Taa.1)
              have Tb9 := Tba.below hb (World.block_lt_of_cell? _ _ Tba.1)
              have Tc9 := Tca.below hb (World.block_lt_of_cell? _ _ Tca.1)
              have Tcc9 := Tcca.below hb (World.block_lt_of_cell? _ _ Tcca.1)
              have Tx9 := Txa.below hb (World.block_lt_of_cell? _ _ Txa.1)
              clear hBa9 Taa Tba Tca Tcca Txa
              clear hb
              obtain ⟨ca0, ca1, -, -⟩ := id Ta9
              obtain ⟨cb0, cb1, -, -⟩ := id Tb9
              obtain ⟨cc0, cc1, -, -⟩ := id Tc9
              obtain ⟨ccc0, ccc1, -, -⟩ := id Tcc9
              obtain ⟨cx0, cx1, -, -⟩ := id Tx9
              cases h1 : (Dm.add m x c z).2.2
              · go_wp2_with fail
                go_ret
                exact ⟨rfl, below_step hB9 ((Below.refl _ _).alloc (Nat.le_refl _) _)⟩
              · skip
                cases h2 : (Dm.add n y c z).2.2
                · go_wp2_with fail
                  go_ret
                  exact ⟨rfl, below_step hB9 ((Below.refl _ _).alloc (Nat.le_refl _) _)⟩
                · skip
                  have HA2 := hideIt (HA.out h1 h2)
                  clear HA
                  go_wp2_with fail
                  refine (iDecCmp_any _ _ _ _ _).mono ?_
                  rintro e w10 ⟨rfl, hb⟩
                  have hBa10 := hB9
                  have hBa10 := below_step hBa10 ((Below.refl _ _).alloc (Nat.le_refl _) (.cells #[.int .i64 (Dm.add n y c z).1, .int .i64 (Dm.add n y c z).2.1] 26))
                  have Taa := Ta9.alloc (World.block_lt_of_cell? _ _ Ta9.1) (.cells #[.int .i64 (Dm.add n y c z).1, .int .i64 (Dm.add n y c z).2.1] 26)
                  have Tba := Tb9.alloc (World.block_lt_of_cell? _ _ Tb9.1) (.cells #[.int .i64 (Dm.add n y c z).1, .int .i64 (Dm.add n y c z).2.1] 26)
                  have Tca := Tc9.alloc (World.block_lt_of_cell? _ _ Tc9.1) (.cells #[.int .i64 (Dm.add n y c z).1, .int .i64 (Dm.add n y c z).2.1] 26)
                  have Tcca := Tcc9.alloc (World.block_lt_of_cell? _ _ Tcc9.1) (.cells #[.int .i64 (Dm.add n y c z).1, .int .i64 (Dm.add n y c z).2.1] 26)
                  have Txa := Tx9.alloc (World.block_lt_of_cell? _ _ Tx9.1) (.cells #[.int .i64 (Dm.add n y c z).1, .int .i64 (Dm.add n y c z).2.1] 26)
                  have Tya := Two.new w9 (Dm.add n y c z).1 (Dm.add n y c z).2.1 26
                  have hB10 := below_step hBa10 hb
                  have Ta10 := Taa.below hb (World.block_lt_of_cell? _ _ Taa.1)
                  have Tb10 := Tba.below hb (World.block_lt_of_cell? _ _ Tba.1)
                  have Tc10 := Tca.below hb (World.block_lt_of_cell? _ _ Tca.1)
                  have Tcc10 := Tcca.below hb (World.block_lt_of_cell? _ _ Tcca.1)
                  have Tx10 := Txa.below hb (World.block_lt_of_cell? _ _ Txa.1)
                  have Ty10 := Tya.below hb (World.block_lt_of_cell? _ _ Tya.1)
                  clear hBa10 Taa Tba Tca Tcca Txa Tya
                  clear hb
                  obtain ⟨ca0, ca1, -, -⟩ := id Ta10
                  obtain ⟨cb0, cb1, -, -⟩ := id Tb10
                  obtain ⟨cc0, cc1, -, -⟩ := id Tc10
                  obtain ⟨ccc0, ccc1, -, -⟩ := id Tcc10
                  obtain ⟨cx0, cx1, -, -⟩ := id Tx10
                  obtain ⟨cy0, cy1, -, -⟩ := id Ty10
                  rw [HA2.out]
                  go_wp2_with fail
                  go_ret
                  exact ⟨rfl, hB10⟩
            · skip
              go_wp2_with fail
              refine (iDecCmp_any _ _ _ _ _).mono ?_
              rintro e w8 ⟨rfl, hb⟩
              have hB8 := below_step hB7 hb
              have Ta8 := Ta7.below hb (World.block_lt_of_cell? _ _ Ta7.1)
              have Tb8 := Tb7.below hb (World.block_lt_of_cell? _ _ Tb7.1)
              have Tc8 := Tc7.below hb (World.block_lt_of_cell? _ _ Tc7.1)
              have Tcc8 := Tcc7.below hb (World.block_lt_of_cell? _ _ Tcc7.1)
              clear hb
              obtain ⟨ca0, ca1, -, -⟩ := id Ta8
              obtain ⟨cb0, cb1, -, -⟩ := id Tb8
              obtain ⟨cc0, cc1, -, -⟩ := id Tc8
              obtain ⟨ccc0, ccc1, -, -⟩ := id Tcc8
              obtain ⟨lb1, lb2⟩ := Dm.cmp_bd n y c z
              have hl : Dm.cmp n y c z = 1 ∨ Dm.cmp n y c z ≤ 0 := by omega
              rcases hl with hl | hl
              · go_wp2_with fail
                refine (iDecAdd_any _ _ _ _ _).mono ?_
                rintro e w9 ⟨rfl, hb⟩
                have hB9 := below_step hB8 hb
                have Ta9 := Ta8.below hb (World.block_lt_of_cell? _ _ Ta8.1)
                have Tb9 := Tb8.below hb (World.block_lt_of_cell? _ _ Tb8.1)
                have Tc9 := Tc8.below hb (World.block_lt_of_cell? _ _ Tc8.1)
                have Tcc9 := Tcc8.below hb (World.block_lt_of_cell? _ _ Tcc8.1)
                clear hb
                obtain ⟨ca0, ca1, -, -⟩ := id Ta9
                obtain ⟨cb0, cb1, -, -⟩ := id Tb9
                obtain ⟨cc0, cc1, -, -⟩ := id Tc9
                obtain ⟨ccc0, ccc1, -, -⟩ := id Tcc9
                go_wp2_with fail
                refine (iDecAdd_any _ _ _ _ _).mono ?_
                rintro e w10 ⟨rfl, hb⟩
                have hBa10 := hB9
                have hBa10 := below_step hBa10 ((Below.refl _ _).alloc (Nat.le_refl _) (.cells #[.int .i64 (Dm.add m x c z).1, .int .i64 (Dm.add m x c z).2.1] 26))
                have Taa := Ta9.alloc (World.block_lt_of_cell? _ _ Ta9.1) (.cells #[.int .i64 (Dm.add m x c z).1, .int .i64 (Dm.add m x c z).2.1] 26)
                have Tba := Tb9.alloc (World.block_lt_of_cell? _ _ Tb9.1) (.cells #[.int .i64 (Dm.add m x c z).1, .int .i64 (Dm.add m x c z).2.1] 26)
                have Tca := Tc9.alloc (World.block_lt_of_cell? _ _ Tc9.1) (.cells #[.int .i64 (Dm.add m x c z).1, .int .i64 (Dm.add m x c z).2.1] 26)
                have Tcca := Tcc9.alloc (World.block_lt_of_cell? _ _ Tcc9.1) (.cells #[.int .i64 (Dm.add m x c z).1, .int .i64 (Dm.add m x c z).2.1] 26)
                have Txa := Two.new w9 (Dm.add m x c z).1 (Dm.add m x c z).2.1 26
                have hB10 := below_step hBa10 hb
                have Ta10 := Taa.below hb (World.block_lt_of_cell? _ _ Taa.1)
                have Tb10 := Tba.below hb (World.block_lt_of_cell? _ _ Tba.1)
                have Tc10 := Tca.below hb (World.block_lt_of_cell? _ _ Tca.1)
                have Tcc10 := Tcca.below hb (World.block_lt_of_cell? _ _ Tcca.1)
                have Tx10 := Txa.below hb (World.block_lt_of_cell? _ _ Txa.1)
                clear hBa10 Taa Tba Tca Tcca Txa
                clear hb
                obtain ⟨ca0, ca1, -, -⟩ := id Ta10
                obtain ⟨cb0, cb1, -, -⟩ := id Tb10
                obtain ⟨cc0, cc1, -, -⟩ := id Tc10
                obtain ⟨ccc0, ccc1, -, -⟩ := id Tcc10
                obtain ⟨cx0, cx1, -, -⟩ := id Tx10
                cases h1 : (Dm.add m x c z).2.2
                · go_wp2_with fail
                  go_ret
                  exact ⟨rfl, below_step hB10 ((Below.refl _ _).alloc (Nat.le_refl _) _)⟩
                · skip
                  cases h2 : (Dm.add n y c z).2.2
                  · go_wp2_with fail
                    go_ret
                    exact ⟨rfl, below_step hB10 ((Below.refl _ _).alloc (Nat.le_refl _) _)⟩
                  · skip
                    have HA2 := hideIt (HA.out h1 h2)
                    clear HA
                    go_wp2_with fail
                    refine (iDecCmp_any _ _ _ _ _).mono ?_
                    rintro e w11 ⟨rfl, hb⟩
                    have hBa11 := hB10
                    have hBa11 := below_step hBa11 ((Below.refl _ _).alloc (Nat.le_refl _) (.cells #[.int .i64 (Dm.add n y c z).1, .int .i64 (Dm.add n y c z).2.1] 26))
                    have Taa := Ta10.alloc (World.block_lt_of_cell? _ _ Ta10.1) (.cells #[.int .i64 (Dm.add n y c z).1, .int .i64 (Dm.add n y c z).2.1] 26)
                    have Tba := Tb10.alloc (World.block_lt_of_cell? _ _ Tb10.1) (.cells #[.int .i64 (Dm.add n y c z).1, .int .i64 (Dm.add n y c z).2.1] 26)
                    have Tca := Tc10.alloc (World.block_lt_of_cell? _ _ Tc10.1) (.cells #[.int .i64 (Dm.add n y c z).1, .int .i64 (Dm.add n y c z).2.1] 26)
                    have Tcca := Tcc10.alloc (World.block_lt_of_cell? _ _ Tcc10.1) (.cells #[.int .i64 (Dm.add n y c z).1, .int .i64 (Dm.add n y c z).2.1] 26)
                    have Txa := Tx10.alloc (World.block_lt_of_cell? _ _ Tx10.1) (.cells #[.int .i64 (Dm.add n y c z).1, .int .i64 (Dm.add n y c z).2.1] 26)
                    have Tya := Two.new w10 (Dm.add n y c z).1 (Dm.add n y c z).2.1 26
                    have hB11 := below_step hBa11 hb
                    have Ta11 := Taa.below hb (World.block_lt_of_cell? _ _ Taa.1)
                    have Tb11 := Tba.below hb (World.block_lt_of_cell? _ _ Tba.1)
                    have Tc11 := Tca.below hb (World.block_lt_of_cell? _ _ Tca.1)
                    have Tcc11 := Tcca.below hb (World.block_lt_of_cell? _ _ Tcca.1)
                    have Tx11 := Txa.below hb (World.block_lt_of_cell? _ _ Txa.1)
                    have Ty11 := Tya.below hb (World.block_lt_of_cell? _ _ Tya.1)
                    clear hBa11 Taa Tba Tca Tcca Txa Tya
                    clear hb
                    obtain ⟨ca0, ca1, -, -⟩ := id Ta11
                    obtain ⟨cb0, cb1, -, -⟩ := id Tb11
                    obtain ⟨cc0, cc1, -, -⟩ := id Tc11
                    obtain ⟨ccc0, ccc1, -, -⟩ := id Tcc11
                    obtain ⟨cx0, cx1, -, -⟩ := id Tx11
                    obtain ⟨cy0, cy1, -, -⟩ := id Ty11
                    rw [HA2.out]
                    go_wp2_with fail
                    go_ret
                    exact ⟨rfl, hB11⟩
              · skip
                go_wp2_with fail
                refine (iDecCmp_any _ _ _ _ _).mono ?_
                rintro e w9 ⟨rfl, hb⟩
                have hB9 := below_step hB8 hb
                have Ta9 := Ta8.below hb (World.block_lt_of_cell? _ _ Ta8.1)
                have Tb9 := Tb8.below hb (World.block_lt_of_cell? _ _ Tb8.1)
                have Tc9 := Tc8.below hb (World.block_lt_of_cell? _ _ Tc8.1)
                have Tcc9 := Tcc8.below hb (World.block_lt_of_cell? _ _ Tcc8.1)
                clear hb
                obtain ⟨ca0, ca1, -, -⟩ := id Ta9
                obtain ⟨cb0, cb1, -, -⟩ := id Tb9
                obtain ⟨cc0, cc1, -, -⟩ := id Tc9
                obtain ⟨ccc0, ccc1, -, -⟩ := id Tcc9
                have ht := HT.out hk hl
                clear HT
                go_wp2_with fail
                refine (iDecAdd_any _ _ _ _ _).mono ?_
                rintro e w10 ⟨rfl, hb⟩
                have hB10 := below_step hB9 hb
                have Ta10 := Ta9.below hb (World.block_lt_of_cell? _ _ Ta9.1)
                have Tb10 := Tb9.below hb (World.block_lt_of_cell? _ _ Tb9.1)
                have Tc10 := Tc9.below hb (World.block_lt_of_cell? _ _ Tc9.1)
                have Tcc10 := Tcc9.below hb (World.block_lt_of_cell? _ _ Tcc9.1)
                clear hb
                obtain ⟨ca0, ca1, -, -⟩ := id Ta10
                obtain ⟨cb0, cb1, -, -⟩ := id Tb10
                obtain ⟨cc0, cc1, -, -⟩ := id Tc10
                obtain ⟨ccc0, ccc1, -, -⟩ := id Tcc10
                go_wp2_with fail
                refine (iDecAdd_any _ _ _ _ _).mono ?_
                rintro e w11 ⟨rfl, hb⟩
                have hBa11 := hB10
                have hBa11 := below_step hBa11 ((Below.refl _ _).alloc (Nat.le_refl _) (.cells #[.int .i64 (Dm.add m x c z).1, .int .i64 (Dm.add m x c z).2.1] 26))
                have Taa := Ta10.alloc (World.block_lt_of_cell? _ _ Ta10.1) (.cells #[.int .i64 (Dm.add m x c z).1, .int .i64 (Dm.add m x c z).2.1] 26)
                have Tba := Tb10.alloc (World.block_lt_of_cell? _ _ Tb10.1) (.cells #[.int .i64 (Dm.add m x c z).1, .int .i64 (Dm.add m x c z).2.1] 26)
                have Tca := Tc10.alloc (World.block_lt_of_cell? _ _ Tc10.1) (.cells #[.int .i64 (Dm.add m x c z).1, .int .i64 (Dm.add m x c z).2.1] 26)
                have Tcca := Tcc10.alloc (World.block_lt_of_cell? _ _ Tcc10.1) (.cells #[.int .i64 (Dm.add m x c z).1, .int .i64 (Dm.add m x c z).2.1] 26)
                have Txa := Two.new w10 (Dm.add m x c z).1 (Dm.add m x c z).2.1 26
                have hB11 := below_step hBa11 hb
                have Ta11 := Taa.below hb (World.block_lt_of_cell? _ _ Taa.1)
                have Tb11 := Tba.below hb (World.block_lt_of_cell? _ _ Tba.1)
                have Tc11 := Tca.below hb (World.block_lt_of_cell? _ _ Tca.1)
                have Tcc11 := Tcca.below hb (World.block_lt_of_cell? _ _ Tcca.1)
                have Tx11 := Txa.below hb (World.block_lt_of_cell? _ _ Txa.1)
                clear hBa11 Taa Tba Tca Tcca Txa
                clear hb
                obtain ⟨ca0, ca1, -, -⟩ := id Ta11
                obtain ⟨cb0, cb1, -, -⟩ := id Tb11
                obtain ⟨cc0, cc1, -, -⟩ := id Tc11
                obtain ⟨ccc0, ccc1, -, -⟩ := id Tcc11
                obtain ⟨cx0, cx1, -, -⟩ := id Tx11
                cases h1 : (Dm.add m x c z).2.2
                · go_wp2_with fail
                  go_ret
                  exact ⟨rfl, below_step hB11 ((Below.refl _ _).alloc (Nat.le_refl _) _)⟩
                · skip
                  cases h2 : (Dm.add n y c z).2.2
                  · go_wp2_with fail
                    go_ret
                    exact ⟨rfl, below_step hB11 ((Below.refl _ _).alloc (Nat.le_refl _) _)⟩
                  · skip
                    have HA2 := hideIt (HA.out h1 h2)
                    clear HA
                    go_wp2_with fail
                    refine (iDecCmp_any _ _ _ _ _).mono ?_
                    rintro e w12 ⟨rfl, hb⟩
                    have hBa12 := hB11
                    have hBa12 := below_step hBa12 ((Below.refl _ _).alloc (Nat.le_refl _) (.cells #[.int .i64 (Dm.add n y c z).1, .int .i64 (Dm.add n y c z).2.1] 26))
                    have Taa := Ta11.alloc (World.block_lt_of_cell? _ _ Ta11.1) (.cells #[.int .i64 (Dm.add n y c z).1, .int .i64 (Dm.add n y c z).2.1] 26)
                    have Tba := Tb11.alloc (World.block_lt_of_cell? _ _ Tb11.1) (.cells #[.int .i64 (Dm.add n y c z).1, .int .i64 (Dm.add n y c z).2.1] 26)
                    have Tca := Tc11.alloc (World.block_lt_of_cell? _ _ Tc11.1) (.cells #[.int .i64 (Dm.add n y c z).1, .int .i64 (Dm.add n y c z).2.1] 26)
                    have Tcca := Tcc11.alloc (World.block_lt_of_cell? _ _ Tcc11.1) (.cells #[.int .i64 (Dm.add n y c z).1, .int .i64 (Dm.add n y c z).2.1] 26)
                    have Txa := Tx11.alloc (World.block_lt_of_cell? _ _ Tx11.1) (.cells #[.int .i64 (Dm.add n y c z).1, .int .i64 (Dm.add n y c z).2.1] 26)
                    have Tya := Two.new w11 (Dm.add n y c z).1 (Dm.add n y c z).2.1 26
                    have hB12 := below_step hBa12 hb
                    have Ta12 := Taa.below hb (World.block_lt_of_cell? _ _ Taa.1)
                    have Tb12 := Tba.below hb (World.block_lt_of_cell? _ _ Tba.1)
                    have Tc12 := Tca.below hb (World.block_lt_of_cell? _ _ Tca.1)
                    have Tcc12 := Tcca.below hb (World.block_lt_of_cell? _ _ Tcca.1)
                    have Tx12 := Txa.below hb (World.block_lt_of_cell? _ _ Txa.1)
                    have Ty12 := Tya.below hb (World.block_lt_of_cell? _ _ Tya.1)
                    clear hBa12 Taa Tba Tca Tcca Txa Tya
                    clear hb
                    obtain ⟨ca0, ca1, -, -⟩ := id Ta12
                    obtain ⟨cb0, cb1, -, -⟩ := id Tb12
                    obtain ⟨cc0, cc1, -, -⟩ := id Tc12
                    obtain ⟨ccc0, ccc1, -, -⟩ := id Tcc12
                    obtain ⟨cx0, cx1, -, -⟩ := id Tx12
                    obtain ⟨cy0, cy1, -, -⟩ := id Ty12
                    rw [HA2.out]
                    go_wp2_with fail
                    go_ret
                    exact ⟨rfl, hB12⟩
end Go.Proofs.Ythpnbjigpdgmpaa
