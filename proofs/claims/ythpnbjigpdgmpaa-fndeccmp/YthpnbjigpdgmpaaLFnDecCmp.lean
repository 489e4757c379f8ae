/- The law FnDecCmp walked. -/
import Derived.Test.YthpnbjigpdgmpaaDraw3
import Derived.Test.YthpnbjigpdgmpaaDecN
import Derived.Test.YthpnbjigpdgmpaaDecG
import Derived.Test.YthpnbjigpdgmpaaDm8
namespace Go.Proofs.Ythpnbjigpdgmpaa
open Go.RowKit
attribute [local go_sem] cell_alloc_is frozen_alloc_is

set_option maxHeartbeats 2000000 in
theorem walk_FnDecCmp (a0 : Option Addr) (len0 cap0 : Nat) (z0 : List Int) (w : World) (w0 : IsRow .u8 w a0 len0 cap0 z0) :
    Calls Try.prog 10 #[.slice a0 len0 cap0] w fun e w' => e = .returned (.bool true) ∧ Below w.heap.size w w' := by
  have hc := codeIn_of w0
  have hcap : len0 ≤ 9223372036854775807 := by have h1 := hc.2.1; have h2 := hc.2.2.1; unfold maxLen at h2; omega
  by_cases hl : 1048576 < len0
  · clear hc w0
    go_enter Try.func10, Try.ntmps10
    go_wp2
    go_ret
    exact ⟨rfl, Below.refl _ _⟩
  · have hB0 : Below w.heap.size w w := Below.refl _ _
    clear w0
    go_enter Try.func10, Try.ntmps10
    go_wp2_with fail
    refine (drawCmp_any _ _ _ _ hc).mono ?_
    rintro e w1 ⟨m, x, n, y, rfl, hm, hn, hb⟩
    have hB1 := below_step hB0 hb
    clear hb
    obtain ⟨m1, m2, x1, x2⟩ := hm
    obtain ⟨n1, n2, y1, y2⟩ := hn
    have HW := hideIt (Dm.cmp_swap n y m x)
    obtain ⟨kb1, kb2⟩ := Dm.cmp_bd m x n y
    go_wp2_with fail
    refine (iDecCmp_any _ _ _ _ _).mono ?_
    rintro e w2 ⟨rfl, hb⟩
    have hBa2 := hB1
    have hBa2 := below_step hBa2 ((Below.refl _ _).alloc (Nat.le_refl _) (.cells #[.int .i64 m, .int .i64 x] 26))
    have Taa := Two.new w1 m x 26
    have hBa2 := below_step hBa2 ((Below.refl _ _).alloc (Nat.le_refl _) (.cells #[.int .i64 n, .int .i64 y] 26))
    have Taa := Taa.alloc (World.block_lt_of_cell? _ _ Taa.1) (.cells #[.int .i64 n, .int .i64 y] 26)
    have Tba := Two.new (w1.alloc (.cells #[.int .i64 m, .int .i64 x] 26)) n y 26
    rw [World.size_alloc] at Tba
    have hB2 := below_step hBa2 hb
    have Ta2 := Taa.below hb (World.block_lt_of_cell? _ _ Taa.1)
    have Tb2 := Tba.below hb (World.block_lt_of_cell? _ _ Tba.1)
    clear hBa2 Taa Tba
    clear hb
    obtain ⟨ca0, ca1, -, -⟩ := id Ta2
    obtain ⟨cb0, cb1, -, -⟩ := id Tb2
    go_wp2_with fail
    refine (sDecCmp_any _ _ _ _ _).mono ?_
    rintro e w3 ⟨rfl, hb⟩
    have hB3 := below_step hB2 hb
    have Ta3 := Ta2.below hb (World.block_lt_of_cell? _ _ Ta2.1)
    have Tb3 := Tb2.below hb (World.block_lt_of_cell? _ _ Tb2.1)
    clear hb
    obtain ⟨ca0, ca1, -, -⟩ := id Ta3
    obtain ⟨cb0, cb1, -, -⟩ := id Tb3
    go_wp2_with fail
    refine (iDecCmp_any _ _ _ _ _).mono ?_
    rintro e w4 ⟨rfl, hb⟩
    have hB4 := below_step hB3 hb
    have Ta4 := Ta3.below hb (World.block_lt_of_cell? _ _ Ta3.1)
    have Tb4 := Tb3.below hb (World.block_lt_of_cell? _ _ Tb3.1)
    clear hb
    obtain ⟨ca0, ca1, -, -⟩ := id Ta4
    obtain ⟨cb0, cb1, -, -⟩ := id Tb4
    rw [HW.out]
    go_wp2_with fail
    refine (sDecOk_any _ _ _).mono ?_
    rintro e w5 ⟨rfl, hb⟩
    have hB5 := below_step hB4 hb
    have Ta5 := Ta4.below hb (World.block_lt_of_cell? _ _ Ta4.1)
    have Tb5 := Tb4.below hb (World.block_lt_of_cell? _ _ Tb4.1)
    clear hb
    obtain ⟨ca0, ca1, -, -⟩ := id Ta5
    obtain ⟨cb0, cb1, -, -⟩ := id Tb5
    cases hoa : Dm.ok m x
    · go_wp2_with fail
      refine (sDecCmp_any _ _ _ _ _).mono ?_
      rintro e w6 ⟨rfl, hb⟩
      have hB6 := below_step hB5 hb
      have Ta6 := Ta5.below hb (World.block_lt_of_cell? _ _ Ta5.1)
      have Tb6 := Tb5.below hb (World.block_lt_of_cell? _ _ Tb5.1)
      clear hb
      obtain ⟨ca0, ca1, -, -⟩ := id Ta6
      obtain ⟨cb0, cb1, -, -⟩ := id Tb6
      go_wp2_with fail
      refine (iDecCmp_any _ _ _ _ _).mono ?_
      rintro e w7 ⟨rfl, hb⟩
      have hB7 := below_step hB6 hb
      have Ta7 := Ta6.below hb (World.block_lt_of_cell? _ _ Ta6.1)
      have Tb7 := Tb6.below hb (World.block_lt_of_cell? _ _ Tb6.1)
      clear hb
      obtain ⟨ca0, ca1, -, -⟩ := id Ta7
      obtain ⟨cb0, cb1, -, -⟩ := id Tb7
      rw [HW.out]
      go_wp2_with fail
      go_ret
      exact ⟨rfl, hB7⟩
    · skip
      go_wp2_with fail
      refine (sDecOk_any _ _ _).mono ?_
      rintro e w6 ⟨rfl, hb⟩
      have hB6 := below_step hB5 hb
      have Ta6 := Ta5.below hb (World.block_lt_of_cell? _ _ Ta5.1)
      have Tb6 := Tb5.below hb (World.block_lt_of_cell? _ _ Tb5.1)
      clear hb
      obtain ⟨ca0, ca1, -, -⟩ := id Ta6
      obtain ⟨cb0, cb1, -, -⟩ := id Tb6
      cases hob : Dm.ok n y
      · go_wp2_with fail
        refine (sDecCmp_any _ _ _ _ _).mono ?_
        rintro e w7 ⟨rfl, hb⟩
        have hB7 := below_step hB6 hb
        have Ta7 := Ta6.below hb (World.block_lt_of_cell? _ _ Ta6.1)
        have Tb7 := Tb6.below hb (World.block_lt_of_cell? _ _ Tb6.1)
        clear hb
        obtain ⟨ca0, ca1, -, -⟩ := id Ta7
        obtain ⟨cb0, cb1, -, -⟩ := id Tb7
        go_wp2_with fail
        refine (iDecCmp_any _ _ _ _ _).mono ?_
        rintro e w8 ⟨rfl, hb⟩
        have hB8 := below_step hB7 hb
        have Ta8 := Ta7.below hb (World.block_lt_of_cell? _ _ Ta7.1)
        have Tb8 := Tb7.below hb (World.block_lt_of_cell? _ _ Tb7.1)
        clear hb
        obtain ⟨ca0, ca1, -, -⟩ := id Ta8
        obtain ⟨cb0, cb1, -, -⟩ := id Tb8
        rw [HW.out]
        go_wp2_with fail
        go_ret
        exact ⟨rfl, hB8⟩
      · skip
        clear HW
        have HZ := hideIt (Dm.cmp_zero hoa hob)
        have HS := hideIt (@Dm.sub_sgn m x n y)
        go_wp2_with fail
        refine (iDecSub_any _ _ _ _ _ (by omega) (by omega)).mono ?_
        rintro e w7 ⟨rfl, hb⟩
        have hB7 := below_step hB6 hb
        have Ta7 := Ta6.below hb (World.block_lt_of_cell? _ _ Ta6.1)
        have Tb7 := Tb6.below hb (World.block_lt_of_cell? _ _ Tb6.1)
        clear hb
        obtain ⟨ca0, ca1, -, -⟩ := id Ta7
        obtain ⟨cb0, cb1, -, -⟩ := id Tb7
        generalize Dm.sub m x n y = r at *
        generalize Dm.cmp m x n y = k at *
        obtain ⟨d, u, ok⟩ := r
        have hz := HZ.out
        have hs := HS.out
        clear HZ HS
        have hk : k = -1 ∨ k = 0 ∨ k = 1 := by omega
        have hcase : (k = 0 ∧ m = n ∧ x = y ∧ (ok = false ∨ (ok = true ∧ d = 0))) ∨ (k = -1 ∧ (m ≠ n ∨ (m = n ∧ x ≠ y)) ∧ (ok = false ∨ (ok = true ∧ decide (d < 0) = true ∧ decide (0 < d) = false))) ∨ (k = 1 ∧ (m ≠ n ∨ (m = n ∧ x ≠ y)) ∧ (ok = false ∨ (ok = true ∧ decide (d < 0) = false ∧ decide (0 < d) = true))) := by
          have hd : ok = false ∨ (ok = true ∧ (d < 0 ↔ k < 0) ∧ (0 < d ↔ 0 < k)) := by
            cases ok
            · exact .inl rfl
            · exact .inr ⟨rfl, hs rfl⟩
          clear hs
          rcases hk with rfl | rfl | rfl
          · refine .inr (.inl ⟨rfl, by omega, ?_⟩)
            rcases hd with hd | ⟨h1, h2⟩
            · exact .inl hd
            · exact .inr ⟨h1, by simp; omega, by simp; omega⟩
          · refine .inl ⟨rfl, by omega, by omega, ?_⟩
            rcases hd with hd | ⟨h1, h2⟩
            · exact .inl hd
            · exact .inr ⟨h1, by omega⟩
          · refine .inr (.inr ⟨rfl, by omega, ?_⟩)
            rcases hd with hd | ⟨h1, h2⟩
            · exact .inl hd
            · exact .inr ⟨h1, by simp; omega, by simp; omega⟩
        clear hz hs hk kb1 kb2
        rcases hcase with ⟨rfl, rfl, rfl, rfl | ⟨rfl, rfl⟩⟩ | ⟨rfl, he | ⟨rfl, he⟩, rfl | ⟨rfl, hd, hd2⟩⟩ | ⟨rfl, he | ⟨rfl, he⟩, rfl | ⟨rfl, hd, hd2⟩⟩
        all_goals
          go_wp2_with fail
          go_ret
          exact ⟨rfl, below_step hB7 ((Below.refl _ _).alloc (Nat.le_refl _) _)⟩
end Go.Proofs.Ythpnbjigpdgmpaa
