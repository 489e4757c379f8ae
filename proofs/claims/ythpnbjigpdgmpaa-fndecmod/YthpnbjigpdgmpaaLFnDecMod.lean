/- The law FnDecMod walked. -/
import Derived.Test.YthpnbjigpdgmpaaDraw3
import Derived.Test.YthpnbjigpdgmpaaDecN
import Derived.Test.YthpnbjigpdgmpaaDecK
import Derived.Test.YthpnbjigpdgmpaaChAbs
import Derived.Test.YthpnbjigpdgmpaaDm9
import Derived.Test.YthpnbjigpdgmpaaHeld4
namespace Go.Proofs.Ythpnbjigpdgmpaa
open Go.RowKit
attribute [local go_sem] cell_alloc_is frozen_alloc_is

set_option maxHeartbeats 2000000 in
theorem walk_FnDecMod (a0 : Option Addr) (len0 cap0 : Nat) (z0 : List Int) (w : World) (w0 : IsRow .u8 w a0 len0 cap0 z0) :
    Calls Try.prog 9 #[.slice a0 len0 cap0] w fun e w' => e = .returned (.bool true) ∧ Below w.heap.size w w' := by
  have hc := codeIn_of w0
  have hcap : len0 ≤ 9223372036854775807 := by have h1 := hc.2.1; have h2 := hc.2.2.1; unfold maxLen at h2; omega
  by_cases hl : 1048576 < len0
  · clear hc w0
    go_enter Try.func9, Try.ntmps9
    go_wp2
    go_ret
    exact ⟨rfl, Below.refl _ _⟩
  · have hB0 : Below w.heap.size w w := Below.refl _ _
    clear w0
    go_enter Try.func9, Try.ntmps9
    go_wp2_with fail
    refine (drawMod_any _ _ _ _ hc).mono ?_
    rintro e w1 ⟨m, x, n, y, rfl, hm, hn, hb⟩
    have hB1 := below_step hB0 hb
    clear hb
    obtain ⟨m1, m2, x1, x2⟩ := hm
    obtain ⟨n1, n2, y1, y2⟩ := hn
    go_wp2_with fail
    refine (iDecMod_any _ _ _ _ _).mono ?_
    rintro e w2 ⟨rfl, hb⟩
    have hBa2 := hB1
    have hBa2 := below_step hBa2 ((Below.refl _ _).alloc (Nat.le_refl _) (.cells #[.int .i64 m, .int .i64 x] 26))
    have Taa := Two.new w1 m x 26
    have hBa2 := below_step hBa2 ((Below.refl _ _).alloc (Nat.le_refl _) (.cells #[.int .i64 n, .int .i64 y] 26))
    have Taa := Taa.alloc (World.block_lt_of_cell? _ _ Taa.1) (.cells #[.int .i64 n, .int .i64 y] 26)
    have Tba := Two.new (w1.alloc (.cells #[.int .i64 m, .int .i64 x] 26)) n y 26
    rw [World.size_alloc] at Tba
    have hB2 := below_step hBa2 hb
    have Ta2 := Taa.below hb (World.block_lt_of_cell? _ _ Taa.1)
    have Tb2 := Tba.below hb (World.block_lt_of_cell? _ _ Tba.1)
    clear hBa2 Taa Tba
    clear hb
    obtain ⟨ca0, ca1, -, -⟩ := id Ta2
    obtain ⟨cb0, cb1, -, -⟩ := id Tb2
    go_wp2_with fail
    refine (sDecMod_any _ _ _ _ _).mono ?_
    rintro e w3 ⟨rfl, hb⟩
    have hBa3 := hB2
    have hBa3 := below_step hBa3 ((Below.refl _ _).alloc (Nat.le_refl _) (.cells #[.int .i64 (Dm.mod m x n y).1, .int .i64 (Dm.mod m x n y).2.1] 26))
    have Taa := Ta2.alloc (World.block_lt_of_cell? _ _ Ta2.1) (.cells #[.int .i64 (Dm.mod m x n y).1, .int .i64 (Dm.mod m x n y).2.1] 26)
    have Tba := Tb2.alloc (World.block_lt_of_cell? _ _ Tb2.1) (.cells #[.int .i64 (Dm.mod m x n y).1, .int .i64 (Dm.mod m x n y).2.1] 26)
    have Tma := Two.new w2 (Dm.mod m x n y).1 (Dm.mod m x n y).2.1 26
    have hB3 := below_step hBa3 hb
    have Ta3 := Taa.below hb (World.block_lt_of_cell? _ _ Taa.1)
    have Tb3 := Tba.below hb (World.block_lt_of_cell? _ _ Tba.1)
    have Tm3 := Tma.below hb (World.block_lt_of_cell? _ _ Tma.1)
    clear hBa3 Taa Tba Tma
    clear hb
    obtain ⟨ca0, ca1, -, -⟩ := id Ta3
    obtain ⟨cb0, cb1, -, -⟩ := id Tb3
    obtain ⟨cm0, cm1, -, -⟩ := id Tm3
    cases hok : (Dm.mod m x n y).2.2
    · go_wp2_with fail
      go_ret
      exact ⟨rfl, below_step hB3 ((Below.refl _ _).alloc (Nat.le_refl _) _)⟩
    · skip
      have HA := hideIt (Dm.mod_again hok)
      have HC := hideIt (Dm.mod_cmp hok)
      have HS := hideIt (Dm.mod_sign hok)
      have rb := Dm.ok_bd (Dm.mod_val hok).2.2.2.1
      obtain ⟨rb1, rb2, rb3, rb4⟩ := rb
      go_wp2_with fail
      refine (iDecMod_any _ _ _ _ _).mono ?_
      rintro e w4 ⟨rfl, hb⟩
      have hBa4 := hB3
      have hBa4 := below_step hBa4 ((Below.refl _ _).alloc (Nat.le_refl _) (.cells #[.int .i64 (Dm.mod m x n y).1, .int .i64 (Dm.mod m x n y).2.1] 26))
      have Taa := Ta3.alloc (World.block_lt_of_cell? _ _ Ta3.1) (.cells #[.int .i64 (Dm.mod m x n y).1, .int .i64 (Dm.mod m x n y).2.1] 26)
      have Tba := Tb3.alloc (World.block_lt_of_cell? _ _ Tb3.1) (.cells #[.int .i64 (Dm.mod m x n y).1, .int .i64 (Dm.mod m x n y).2.1] 26)
      have Tma := Tm3.alloc (World.block_lt_of_cell? _ _ Tm3.1) (.cells #[.int .i64 (Dm.mod m x n y).1, .int .i64 (Dm.mod m x n y).2.1] 26)
      have Twanta := Two.new w3 (Dm.mod m x n y).1 (Dm.mod m x n y).2.1 26
      have hB4 := below_step hBa4 hb
      have Ta4 := Taa.below hb (World.block_lt_of_cell? _ _ Taa.1)
      have Tb4 := Tba.below hb (World.block_lt_of_cell? _ _ Tba.1)
      have Tm4 := Tma.below hb (World.block_lt_of_cell? _ _ Tma.1)
      have Twant4 := Twanta.below hb (World.block_lt_of_cell? _ _ Twanta.1)
      clear hBa4 Taa Tba Tma Twanta
      clear hb
      obtain ⟨ca0, ca1, -, -⟩ := id Ta4
      obtain ⟨cb0, cb1, -, -⟩ := id Tb4
      obtain ⟨cm0, cm1, -, -⟩ := id Tm4
      obtain ⟨cwant0, cwant1, -, -⟩ := id Twant4
      rw [HA.out]
      clear HA
      have hmv := HS.out
      clear HS
      generalize hM : Dm.mod m x n y = r at *
      clear hM
      obtain ⟨p, u, okr⟩ := r
      simp only at *
      subst hok
      obtain ⟨W0, hW0⟩ : ∃ W0, W0 = w4.alloc (.cells #[.int .i64 p, .int .i64 u] 26) := ⟨_, rfl⟩
      have hBW : Below w.heap.size w W0 := by subst hW0; exact below_step hB4 ((Below.refl _ _).alloc (Nat.le_refl _) _)
      have Tag : Two W0 w4.heap.size p u := by subst hW0; exact Two.new _ _ _ _
      have Ta5 : Two W0 w1.heap.size m x := by subst hW0; exact Ta4.alloc (World.block_lt_of_cell? _ _ Ta4.1) _
      have Tb5 : Two W0 (w1.heap.size + 1) n y := by subst hW0; exact Tb4.alloc (World.block_lt_of_cell? _ _ Tb4.1) _
      have Tm5 : Two W0 w2.heap.size p u := by subst hW0; exact Tm4.alloc (World.block_lt_of_cell? _ _ Tm4.1) _
      have hStart := Held4.start Ta5 Tb5 Tm5 Tag
      have CMP : ∀ v : World, Calls Try.prog 30 #[.agg #[.int .i64 (p.natAbs : Int), .int .i64 u], .agg #[.int .i64 (n.natAbs : Int), .int .i64 y]] v fun e w' => e = .returned (.int .i64 (-1)) ∧ Below v.heap.size v w' := by
        intro v
        have := iDecCmp_any (p.natAbs : Int) u (n.natAbs : Int) y v
        rw [HC.out] at this
        exact this
      clear HC
      have hcase : ((p == 0) = true) ∨ ((p == 0) = false ∧ decide (p < 0) = true ∧ decide (m < 0) = true) ∨ ((p == 0) = false ∧ decide (p < 0) = false ∧ decide (m < 0) = false) := by
        rcases hmv with h | ⟨h, h2⟩
        · exact .inl (by simp; exact h)
        · by_cases hp : p < 0
          · exact .inr (.inl ⟨by simp; omega, by simp; omega, by simp; omega⟩)
          · exact .inr (.inr ⟨by simp; omega, by simp; omega, by simp; omega⟩)
      clear hmv Ta4 Tb4 Tm4 Twant4 Ta5 Tb5 Tm5 Tag Ta3 Tb3 Tm3 Ta2 Tb2 ca0 ca1 cb0 cb1 cm0 cm1 cwant0 cwant1
      go_wp2_with fail
      rw [← hW0]
      obtain ⟨sa, hsa⟩ : ∃ sa, sa = w1.heap.size := ⟨_, rfl⟩
      clear hW0
      rcases hcase with hp0 | hcase
      · skip
        have hH0 : p = 0 := by simpa using hp0
        subst hH0
        refine wp_region_held_drew (S := fun w' => w'.cell? ⟨w1.heap.size, 0, none⟩ = some (.int .i64 m) ∧ w'.cell? ⟨w1.heap.size, 1, none⟩ = some (.int .i64 x) ∧ w'.cell? ⟨w1.heap.size + 1, 0, none⟩ = some (.int .i64 n) ∧ w'.cell? ⟨w1.heap.size + 1, 1, none⟩ = some (.int .i64 y) ∧ w'.cell? ⟨w2.heap.size, 0, none⟩ = some (.int .i64 0) ∧ w'.cell? ⟨w2.heap.size, 1, none⟩ = some (.int .i64 u) ∧ w'.cell? ⟨w4.heap.size, 0, none⟩ = some (.int .i64 0) ∧ w'.cell? ⟨w4.heap.size, 1, none⟩ = some (.int .i64 u) ∧ Below W0.heap.size W0 w') (by kernel_rfl) hStart.drew (fun hHeld => ?_)
        refine wpAnyH_take (i := 0) (v := .agg #[.int .i64 0, .int .i64 u]) rfl (by kernel_rfl) (by kernel_rfl) (by kernel_rfl) (fun _ _ _ h => h) (Or.inl ⟨by rfl, ?_⟩) (by assumption) ?_
        · intro w hSw
          (try dsimp only at hSw)
          go_simp
        simp only [Act.put, List.getElem_toArray, List.getElem_cons_zero, List.setIfInBounds_toArray, List.set_cons_zero, List.set_cons_succ]
        refine wpAnyH_take (i := 2) (v := .agg #[.int .i64 n, .int .i64 y]) rfl (by kernel_rfl) (by kernel_rfl) (by kernel_rfl) (fun _ _ _ h => h) (Or.inl ⟨by rfl, ?_⟩) (by assumption) ?_
        · intro w hSw
          (try dsimp only at hSw)
          go_simp
        simp only [Act.put, List.getElem_toArray, List.getElem_cons_zero, List.getElem_cons_succ, List.setIfInBounds_toArray, List.set_cons_zero, List.set_cons_succ]
        refine wpAnyH_ready (rs := [1]) (by kernel_rfl) (by simp) ?_
        refine AllReadyH.cons rfl (fun K hK => ?_) AllReadyH.nil
        rw [if_pos (by rfl)]
        go_simp
        refine (chAbs_any _ _ _ (by omega) (by omega)).mono ?_
        rintro e w1' ⟨rfl, hb1⟩
        have hS : Held4 W0 w1.heap.size (w1.heap.size + 1) w2.heap.size w4.heap.size m x n y 0 u 0 u w1' := Held4.below (by assumption) hb1
        go_wp2_with fail
        refine hK.out _ _ hS (fun hHeld => ?_)
        clear hK K hS hb1
        refine wpAnyH_ready (rs := [3]) (by kernel_rfl) (by simp) ?_
        refine AllReadyH.cons rfl (fun K hK => ?_) AllReadyH.nil
        rw [if_pos (by rfl)]
        go_simp
        refine (chAbs_any _ _ _ (by omega) (by omega)).mono ?_
        rintro e w1' ⟨rfl, hb1⟩
        have hS : Held4 W0 w1.heap.size (w1.heap.size + 1) w2.heap.size w4.heap.size m x n y 0 u 0 u w1' := Held4.below (by assumption) hb1
        go_wp2_with fail
        refine hK.out _ _ hS (fun hHeld => ?_)
        clear hK K hS hb1
        refine wpAnyH_ready (rs := [4]) (by kernel_rfl) (by simp) ?_
        refine AllReadyH.cons rfl (fun K hK => ?_) AllReadyH.nil
        rw [if_pos (by rfl)]
        go_simp
        refine (CMP _).mono ?_
        rintro e w1' ⟨rfl, hb1⟩
        have hS : Held4 W0 w1.heap.size (w1.heap.size + 1) w2.heap.size w4.heap.size m x n y 0 u 0 u w1' := Held4.below (by assumption) hb1
        go_wp2_with fail
        refine hK.out _ _ hS (fun hHeld => ?_)
        clear hK K hS hb1
        refine wpAnyH_take (i := 5) (v := .bool true) rfl (by kernel_rfl) (by kernel_rfl) (by kernel_rfl) (fun _ _ _ h => h) (Or.inl ⟨by rfl, ?_⟩) (by assumption) ?_
        · intro w hSw
          (try dsimp only at hSw)
          go_simp
        simp only [Act.put, List.getElem_toArray, List.getElem_cons_zero, List.getElem_cons_succ, List.setIfInBounds_toArray, List.set_cons_zero, List.set_cons_succ]
        refine wpAnyH_take (i := 6) (v := .bool true) rfl (by kernel_rfl) (by kernel_rfl) (by kernel_rfl) (fun _ _ _ h => h) (Or.inl ⟨by rfl, ?_⟩) (by assumption) ?_
        · intro w hSw
          (try dsimp only at hSw)
          go_simp
        simp only [Act.put, List.getElem_toArray, List.getElem_cons_zero, List.getElem_cons_succ, List.setIfInBounds_toArray, List.set_cons_zero, List.set_cons_succ]
        refine wpAnyH_take (i := 7) (v := .pointer (some ⟨w2.heap.size, 0, none⟩)) rfl (by kernel_rfl) (by kernel_rfl) (by kernel_rfl) (fun _ _ _ h => h) (Or.inl ⟨by rfl, ?_⟩) (by assumption) ?_
        · intro w hSw
          (try dsimp only at hSw)
          go_simp
        simp only [Act.put, List.getElem_toArray, List.getElem_cons_zero, List.getElem_cons_succ, List.setIfInBounds_toArray, List.set_cons_zero, List.set_cons_succ]
        refine wpAnyH_take (i := 8) (v := .int .i64 0) rfl (by kernel_rfl) (by kernel_rfl) (by kernel_rfl) (fun _ _ _ h => h) (Or.inl ⟨by rfl, ?_⟩) (by assumption) ?_
        · intro w hSw
          (try dsimp only at hSw)
          go_simp
        simp only [Act.put, List.getElem_toArray, List.getElem_cons_zero, List.getElem_cons_succ, List.setIfInBounds_toArray, List.set_cons_zero, List.set_cons_succ]
        refine wpAnyH_take (i := 9) (v := .bool true) rfl (by kernel_rfl) (by kernel_rfl) (by kernel_rfl) (fun _ _ _ h => h) (Or.inl ⟨by rfl, ?_⟩) (by assumption) ?_
        · intro w hSw
          (try dsimp only at hSw)
          go_simp
        simp only [Act.put, List.getElem_toArray, List.getElem_cons_zero, List.getElem_cons_succ, List.setIfInBounds_toArray, List.set_cons_zero, List.set_cons_succ]
        refine wpAnyH_take (i := 10) (v := .bool true) rfl (by kernel_rfl) (by kernel_rfl) (by kernel_rfl) (fun _ _ _ h => h) (Or.inl ⟨by rfl, ?_⟩) (by assumption) ?_
        · intro w hSw
          (try dsimp only at hSw)
          go_simp
        simp only [Act.put, List.getElem_toArray, List.getElem_cons_zero, List.getElem_cons_succ, List.setIfInBounds_toArray, List.set_cons_zero, List.set_cons_succ]
        refine wpAnyH_take (i := 11) (v := undef) rfl (by kernel_rfl) (by kernel_rfl) (by kernel_rfl) (fun _ _ _ h => h) (Or.inr ⟨by rfl, rfl⟩) (by assumption) ?_
        simp only [Act.put, List.getElem_toArray, List.getElem_cons_zero, List.getElem_cons_succ, List.setIfInBounds_toArray, List.set_cons_zero, List.set_cons_succ]
        refine wpAnyH_take (i := 12) (v := undef) rfl (by kernel_rfl) (by kernel_rfl) (by kernel_rfl) (fun _ _ _ h => h) (Or.inr ⟨by rfl, rfl⟩) (by assumption) ?_
        simp only [Act.put, List.getElem_toArray, List.getElem_cons_zero, List.getElem_cons_succ, List.setIfInBounds_toArray, List.set_cons_zero, List.set_cons_succ]
        refine wpAnyH_take (i := 13) (v := undef) rfl (by kernel_rfl) (by kernel_rfl) (by kernel_rfl) (fun _ _ _ h => h) (Or.inr ⟨by rfl, rfl⟩) (by assumption) ?_
        simp only [Act.put, List.getElem_toArray, List.getElem_cons_zero, List.getElem_cons_succ, List.setIfInBounds_toArray, List.set_cons_zero, List.set_cons_succ]
        refine wpAnyH_take (i := 14) (v := undef) rfl (by kernel_rfl) (by kernel_rfl) (by kernel_rfl) (fun _ _ _ h => h) (Or.inr ⟨by rfl, rfl⟩) (by assumption) ?_
        simp only [Act.put, List.getElem_toArray, List.getElem_cons_zero, List.getElem_cons_succ, List.setIfInBounds_toArray, List.set_cons_zero, List.set_cons_succ]
        refine wpAnyH_take (i := 15) (v := undef) rfl (by kernel_rfl) (by kernel_rfl) (by kernel_rfl) (fun _ _ _ h => h) (Or.inr ⟨by rfl, rfl⟩) (by assumption) ?_
        simp only [Act.put, List.getElem_toArray, List.getElem_cons_zero, List.getElem_cons_succ, List.setIfInBounds_toArray, List.set_cons_zero, List.set_cons_succ]
        refine wpAnyH_take (i := 16) (v := undef) rfl (by kernel_rfl) (by kernel_rfl) (by kernel_rfl) (fun _ _ _ h => h) (Or.inr ⟨by rfl, rfl⟩) (by assumption) ?_
        simp only [Act.put, List.getElem_toArray, List.getElem_cons_zero, List.getElem_cons_succ, List.setIfInBounds_toArray, List.set_cons_zero, List.set_cons_succ]
        refine wpAnyH_take (i := 17) (v := undef) rfl (by kernel_rfl) (by kernel_rfl) (by kernel_rfl) (fun _ _ _ h => h) (Or.inr ⟨by rfl, rfl⟩) (by assumption) ?_
        simp only [Act.put, List.getElem_toArray, List.getElem_cons_zero, List.getElem_cons_succ, List.setIfInBounds_toArray, List.set_cons_zero, List.set_cons_succ]
        refine wpAnyH_take (i := 18) (v := .bool true) rfl (by kernel_rfl) (by kernel_rfl) (by kernel_rfl) (fun _ _ _ h => h) (Or.inl ⟨by rfl, ?_⟩) (by assumption) ?_
        · intro w hSw
          (try dsimp only at hSw)
          go_simp
        simp only [Act.put, List.getElem_toArray, List.getElem_cons_zero, List.getElem_cons_succ, List.setIfInBounds_toArray, List.set_cons_zero, List.set_cons_succ]
        refine wpAnyH_take (i := 19) (v := .bool true) rfl (by kernel_rfl) (by kernel_rfl) (by kernel_rfl) (fun _ _ _ h => h) (Or.inl ⟨by rfl, ?_⟩) (by assumption) ?_
        · intro w hSw
          (try dsimp only at hSw)
          go_simp
        simp only [Act.put, List.getElem_toArray, List.getElem_cons_zero, List.getElem_cons_succ, List.setIfInBounds_toArray, List.set_cons_zero, List.set_cons_succ]
        refine wpAnyH_take (i := 20) (v := .bool true) rfl (by kernel_rfl) (by kernel_rfl) (by kernel_rfl) (fun _ _ _ h => h) (Or.inl ⟨by rfl, ?_⟩) (by assumption) ?_
        · intro w hSw
          (try dsimp only at hSw)
          go_simp
        simp only [Act.put, List.getElem_toArray, List.getElem_cons_zero, List.getElem_cons_succ, List.setIfInBounds_toArray, List.set_cons_zero, List.set_cons_succ]
        refine wpAnyH_take (i := 21) (v := .bool true) rfl (by kernel_rfl) (by kernel_rfl) (by kernel_rfl) (fun _ _ _ h => h) (Or.inl ⟨by rfl, ?_⟩) (by assumption) ?_
        · intro w hSw
          (try dsimp only at hSw)
          go_simp
        simp only [Act.put, List.getElem_toArray, List.getElem_cons_zero, List.getElem_cons_succ, List.setIfInBounds_toArray, List.set_cons_zero, List.set_cons_succ]
        refine wpAnyH_take (i := 22) (v := .bool true) rfl (by kernel_rfl) (by kernel_rfl) (by kernel_rfl) (fun _ _ _ h => h) (Or.inl ⟨by rfl, ?_⟩) (by assumption) ?_
        · intro w hSw
          (try dsimp only at hSw)
          go_simp
        simp only [Act.put, List.getElem_toArray, List.getElem_cons_zero, List.getElem_cons_succ, List.setIfInBounds_toArray, List.set_cons_zero, List.set_cons_succ]
        refine wpAnyH_take (i := 23) (v := .bool true) rfl (by kernel_rfl) (by kernel_rfl) (by kernel_rfl) (fun _ _ _ h => h) (Or.inl ⟨by rfl, ?_⟩) (by assumption) ?_
        · intro w hSw
          (try dsimp only at hSw)
          go_simp
        simp only [Act.put, List.getElem_toArray, List.getElem_cons_zero, List.getElem_cons_succ, List.setIfInBounds_toArray, List.set_cons_zero, List.set_cons_succ]
        refine wpAnyH_take (i := 24) (v := .agg #[.int .i64 0, .int .i64 u]) rfl (by kernel_rfl) (by kernel_rfl) (by kernel_rfl) (fun _ _ _ h => h) (Or.inl ⟨by rfl, ?_⟩) (by assumption) ?_
        · intro w hSw
          (try dsimp only at hSw)
          go_simp
        simp only [Act.put, List.getElem_toArray, List.getElem_cons_zero, List.getElem_cons_succ, List.setIfInBounds_toArray, List.set_cons_zero, List.set_cons_succ]
        refine wpAnyH_take (i := 25) (v := .agg #[.int .i64 0, .int .i64 u]) rfl (by kernel_rfl) (by kernel_rfl) (by kernel_rfl) (fun _ _ _ h => h) (Or.inl ⟨by rfl, ?_⟩) (by assumption) ?_
        · intro w hSw
          (try dsimp only at hSw)
          go_simp
        simp only [Act.put, List.getElem_toArray, List.getElem_cons_zero, List.getElem_cons_succ, List.setIfInBounds_toArray, List.set_cons_zero, List.set_cons_succ]
        refine wpAnyH_take (i := 26) (v := .bool true) rfl (by kernel_rfl) (by kernel_rfl) (by kernel_rfl) (fun _ _ _ h => h) (Or.inl ⟨by rfl, ?_⟩) (by assumption) ?_
        · intro w hSw
          (try dsimp only at hSw)
          go_simp
        simp only [Act.put, List.getElem_toArray, List.getElem_cons_zero, List.getElem_cons_succ, List.setIfInBounds_toArray, List.set_cons_zero, List.set_cons_succ]
        refine wpAnyH_take (i := 27) (v := .bool true) rfl (by kernel_rfl) (by kernel_rfl) (by kernel_rfl) (fun _ _ _ h => h) (Or.inl ⟨by rfl, ?_⟩) (by assumption) ?_
        · intro w hSw
          (try dsimp only at hSw)
          go_simp
        simp only [Act.put, List.getElem_toArray, List.getElem_cons_zero, List.getElem_cons_succ, List.setIfInBounds_toArray, List.set_cons_zero, List.set_cons_succ]
        refine wpAnyH_take (i := 28) (v := .bool true) rfl (by kernel_rfl) (by kernel_rfl) (by kernel_rfl) (fun _ _ _ h => h) (Or.inl ⟨by rfl, ?_⟩) (by assumption) ?_
        · intro w hSw
          (try dsimp only at hSw)
          go_simp
        simp only [Act.put, List.getElem_toArray, List.getElem_cons_zero, List.getElem_cons_succ, List.setIfInBounds_toArray, List.set_cons_zero, List.set_cons_succ]
        refine wpAnyH_done (by kernel_rfl) ?_ _
        go_wp2_with fail
        go_ret
        exact ⟨rfl, hBW.trans (hHeld.2.2.2.2.2.2.2.2.mono hBW.size)⟩
      · skip
        rcases hcase with ⟨hp0, hp, hmm⟩ | ⟨hp0, hp, hmm⟩
        all_goals
          first | (go_region_held3 (fun w' => w'.cell? ⟨w1.heap.size, 0, none⟩ = some (.int .i64 m) ∧ w'.cell? ⟨w1.heap.size, 1, none⟩ = some (.int .i64 x) ∧ w'.cell? ⟨w1.heap.size + 1, 0, none⟩ = some (.int .i64 n) ∧ w'.cell? ⟨w1.heap.size + 1, 1, none⟩ = some (.int .i64 y) ∧ w'.cell? ⟨w2.heap.size, 0, none⟩ = some (.int .i64 p) ∧ w'.cell? ⟨w2.heap.size, 1, none⟩ = some (.int .i64 u) ∧ w'.cell? ⟨w4.heap.size, 0, none⟩ = some (.int .i64 p) ∧ w'.cell? ⟨w4.heap.size, 1, none⟩ = some (.int .i64 u) ∧ Below W0.heap.size W0 w') (first | exact hStart.drew | assumption) (first
            | (go_at_call 29; refine (chAbs_any _ _ _ (by omega) (by omega)).mono ?_; rintro e w1' ⟨rfl, hb1⟩; have hS : Held4 W0 w1.heap.size (w1.heap.size + 1) w2.heap.size w4.heap.size m x n y p u p u w1' := Held4.below (by assumption) hb1; have hz := hb1.size; obtain ⟨hc1, hf1⟩ := bsome hb1; (try simp at hz); (try (have hbb := below_step (by assumption) hb1; obtain ⟨hc', hf'⟩ := bsome hbb)))
            | (go_at_call 30; refine (CMP _).mono ?_; rintro e w1' ⟨rfl, hb1⟩; have hS : Held4 W0 w1.heap.size (w1.heap.size + 1) w2.heap.size w4.heap.size m x n y p u p u w1' := Held4.below (by assumption) hb1; have hz := hb1.size; obtain ⟨hc1, hf1⟩ := bsome hb1; (try simp at hz); (try (have hbb := below_step (by assumption) hb1; obtain ⟨hc', hf'⟩ := bsome hbb))))) | fail "region"
          go_wp2_with fail
          go_ret
          exact ⟨rfl, hBW.trans ((by assumption : Held4 W0 w1.heap.size (w1.heap.size + 1) w2.heap.size w4.heap.size m x n y p u p u _).2.2.2.2.2.2.2.2.mono hBW.size)⟩
end Go.Proofs.Ythpnbjigpdgmpaa
