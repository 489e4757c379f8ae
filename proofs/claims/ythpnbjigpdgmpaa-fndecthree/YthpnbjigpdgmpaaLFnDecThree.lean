/- The law FnDecThree walked. -/
import Derived.Test.YthpnbjigpdgmpaaDraw3
import Derived.Test.YthpnbjigpdgmpaaDecG
import Derived.Test.YthpnbjigpdgmpaaDm7
namespace Go.Proofs.Ythpnbjigpdgmpaa
open Go.RowKit
attribute [local go_sem] cell_alloc_is frozen_alloc_is

theorem Two.step {w w' : World} {b : Nat} {m e : Int} {o : Obj} (h : Two w b m e) (hb : Below (w.alloc o).heap.size (w.alloc o) w') : Two w' b m e :=
  (h.alloc (World.block_lt_of_cell? _ _ h.1) o).below hb (World.block_lt_of_cell? _ _ (h.alloc (World.block_lt_of_cell? _ _ h.1) o).1)
theorem Two.stepNew {w w' : World} {m e : Int} {t : TypeId} (hb : Below (w.alloc (.cells #[.int .i64 m, .int .i64 e] t)).heap.size (w.alloc (.cells #[.int .i64 m, .int .i64 e] t)) w') : Two w' w.heap.size m e :=
  (Two.new w m e t).below hb (by simp)

set_option maxHeartbeats 4000000 in
theorem walk_FnDecThree (a0 : Option Addr) (len0 cap0 : Nat) (z0 : List Int) (a1 : Option Addr) (len1 cap1 : Nat) (z1 : List Int) (w : World) (w0 : IsRow .u8 w a0 len0 cap0 z0) (v0 : IsRow .u8 w a1 len1 cap1 z1) :
    Calls Try.prog 7 #[.slice a0 len0 cap0, .slice a1 len1 cap1] w fun e w' => e = .returned (.bool true) ∧ Below w.heap.size w w' := by
  have hc := codeIn_of w0
  have hd := codeIn_of v0
  have hcap : len0 ≤ 9223372036854775807 := by have h1 := hc.2.1; have h2 := hc.2.2.1; unfold maxLen at h2; omega
  have hcap1 : len1 ≤ 9223372036854775807 := by have h1 := hd.2.1; have h2 := hd.2.2.1; unfold maxLen at h2; omega
  by_cases hl : 1048576 < len0
  · clear hc w0 hd v0
    go_enter Try.func7, Try.ntmps7
    go_wp2
    go_ret
    exact ⟨rfl, Below.refl _ _⟩
  · have hlb : decide ((1048576 : Int) < (len0 : Int)) = false := by simp; omega
    by_cases hl1 : 1048576 < len1
    · clear hc w0 hd v0
      go_enter Try.func7, Try.ntmps7
      go_wp2
      go_ret
      exact ⟨rfl, Below.refl _ _⟩
    · have hlb1 : decide ((1048576 : Int) < (len1 : Int)) = false := by simp; omega
      have hB0 : Below w.heap.size w w := Below.refl _ _
      clear w0 v0 hl hl1
      go_enter Try.func7, Try.ntmps7
      go_wp2_with fail
      refine (drawTwo_any _ _ _ _ hc).mono ?_
      rintro e w1 ⟨m, x, n, y, rfl, hm, hn, hb⟩
      have hB1 := below_step hB0 hb
      clear hb
      go_wp2_with fail
      refine (drawMul_any _ _ _ _ (hd.below (below_step (below_step hB1 ((Below.refl _ _).alloc (Nat.le_refl _) _)) ((Below.refl _ _).alloc (Nat.le_refl _) _)))).mono ?_
      rintro e w2 ⟨c, z, c2, z2, rfl, hcc, hcd, hb⟩
      have hBa2 := hB1
      have hBa2 := below_step hBa2 ((Below.refl _ _).alloc (Nat.le_refl _) (.cells #[.int .i64 m, .int .i64 x] 26))
      have Taa := Two.new w1 m x 26
      have hBa2 := below_step hBa2 ((Below.refl _ _).alloc (Nat.le_refl _) (.cells #[.int .i64 n, .int .i64 y] 26))
      have Taa := Taa.alloc (World.block_lt_of_cell? _ _ Taa.1) (.cells #[.int .i64 n, .int .i64 y] 26)
      have Tba := Two.new (w1.alloc (.cells #[.int .i64 m, .int .i64 x] 26)) n y 26
      rw [World.size_alloc] at Tba
      have hB2 := below_step hBa2 hb
      have Ta2 := Taa.below hb (World.block_lt_of_cell? _ _ Taa.1)
      have Tb2 := Tba.below hb (World.block_lt_of_cell? _ _ Tba.1)
      clear hBa2 Taa Tba
      clear hb
      obtain ⟨ca0, ca1, -, -⟩ := id Ta2
      obtain ⟨cb0, cb1, -, -⟩ := id Tb2
      go_wp2_with fail
      refine (iDecAdd_any _ _ _ _ _).mono ?_
      rintro e w3 ⟨rfl, hb⟩
      have hBa3 := hB2
      have hBa3 := below_step hBa3 ((Below.refl _ _).alloc (Nat.le_refl _) (.cells #[.int .i64 c, .int .i64 z] 26))
      have Taa := Ta2.alloc (World.block_lt_of_cell? _ _ Ta2.1) (.cells #[.int .i64 c, .int .i64 z] 26)
      have Tba := Tb2.alloc (World.block_lt_of_cell? _ _ Tb2.1) (.cells #[.int .i64 c, .int .i64 z] 26)
      have Tca := Two.new w2 c z 26
      have hBa3 := below_step hBa3 ((Below.refl _ _).alloc (Nat.le_refl _) (.cells #[.int .i64 c2, .int .i64 z2] 26))
      have Taa := Taa.alloc (World.block_lt_of_cell? _ _ Taa.1) (.cells #[.int .i64 c2, .int .i64 z2] 26)
      have Tba := Tba.alloc (World.block_lt_of_cell? _ _ Tba.1) (.cells #[.int .i64 c2, .int .i64 z2] 26)
      have Tca := Tca.alloc (World.block_lt_of_cell? _ _ Tca.1) (.cells #[.int .i64 c2, .int .i64 z2] 26)
      have Tcca := Two.new (w2.alloc (.cells #[.int .i64 c, .int .i64 z] 26)) c2 z2 26
      rw [World.size_alloc] at Tcca
      have hB3 := below_step hBa3 hb
      have Ta3 := Taa.below hb (World.block_lt_of_cell? _ _ Taa.1)
      have Tb3 := Tba.below hb (World.block_lt_of_cell? _ _ Tba.1)
      have Tc3 := Tca.below hb (World.block_lt_of_cell? _ _ Tca.1)
      have Tcc3 := Tcca.below hb (World.block_lt_of_cell? _ _ Tcca.1)
      clear hBa3 Taa Tba Tca Tcca
      clear hb
      obtain ⟨ca0, ca1, -, -⟩ := id Ta3
      obtain ⟨cb0, cb1, -, -⟩ := id Tb3
      obtain ⟨cc0, cc1, -, -⟩ := id Tc3
      obtain ⟨ccc0, ccc1, -, -⟩ := id Tcc3
      go_wp2_with fail
      refine (sDecAdd_any _ _ _ _ _).mono ?_
      rintro e w4 ⟨rfl, hb⟩
      have hBa4 := hB3
      have hBa4 := below_step hBa4 ((Below.refl _ _).alloc (Nat.le_refl _) (.cells #[.int .i64 (Dm.add m x n y).1, .int .i64 (Dm.add m x n y).2.1] 26))
      have Taa := Ta3.alloc (World.block_lt_of_cell? _ _ Ta3.1) (.cells #[.int .i64 (Dm.add m x n y).1, .int .i64 (Dm.add m x n y).2.1] 26)
      have Tba := Tb3.alloc (World.block_lt_of_cell? _ _ Tb3.1) (.cells #[.int .i64 (Dm.add m x n y).1, .int .i64 (Dm.add m x n y).2.1] 26)
      have Tca := Tc3.alloc (World.block_lt_of_cell? _ _ Tc3.1) (.cells #[.int .i64 (Dm.add m x n y).1, .int .i64 (Dm.add m x n y).2.1] 26)
      have Tcca := Tcc3.alloc (World.block_lt_of_cell? _ _ Tcc3.1) (.cells #[.int .i64 (Dm.add m x n y).1, .int .i64 (Dm.add m x n y).2.1] 26)
      have Taba := Two.new w3 (Dm.add m x n y).1 (Dm.add m x n y).2.1 26
      have hB4 := below_step hBa4 hb
      have Ta4 := Taa.below hb (World.block_lt_of_cell? _ _ Taa.1)
      have Tb4 := Tba.below hb (World.block_lt_of_cell? _ _ Tba.1)
      have Tc4 := Tca.below hb (World.block_lt_of_cell? _ _ Tca.1)
      have Tcc4 := Tcca.below hb (World.block_lt_of_cell? _ _ Tcca.1)
      have Tab4 := Taba.below hb (World.block_lt_of_cell? _ _ Taba.1)
      clear hBa4 Taa Tba Tca Tcca Taba
      clear hb
      obtain ⟨ca0, ca1, -, -⟩ := id Ta4
      obtain ⟨cb0, cb1, -, -⟩ := id Tb4
      obtain ⟨cc0, cc1, -, -⟩ := id Tc4
      obtain ⟨ccc0, ccc1, -, -⟩ := id Tcc4
      obtain ⟨cab0, cab1, -, -⟩ := id Tab4
      cases hok : (Dm.add m x n y).2.2
      · go_wp2_with fail
        go_ret
        exact ⟨rfl, below_step hB4 ((Below.refl _ _).alloc (Nat.le_refl _) _)⟩
      · skip
        have HAS := hideIt (@Dm.add_assoc3 m x n y c z hok)
        have HMA := hideIt (@Dm.mul_add3 m x n y c z hok)
        go_wp2_with fail
        refine (iDecAdd_any _ _ _ _ _).mono ?_
        rintro e w5 ⟨rfl, hb⟩
        have hBa5 := hB4
        have hBa5 := below_step hBa5 ((Below.refl _ _).alloc (Nat.le_refl _) (.cells #[.int .i64 (Dm.add m x n y).1, .int .i64 (Dm.add m x n y).2.1] 26))
        have Taa := Ta4.alloc (World.block_lt_of_cell? _ _ Ta4.1) (.cells #[.int .i64 (Dm.add m x n y).1, .int .i64 (Dm.add m x n y).2.1] 26)
        have Tba := Tb4.alloc (World.block_lt_of_cell? _ _ Tb4.1) (.cells #[.int .i64 (Dm.add m x n y).1, .int .i64 (Dm.add m x n y).2.1] 26)
        have Tca := Tc4.alloc (World.block_lt_of_cell? _ _ Tc4.1) (.cells #[.int .i64 (Dm.add m x n y).1, .int .i64 (Dm.add m x n y).2.1] 26)
        have Tcca := Tcc4.alloc (World.block_lt_of_cell? _ _ Tcc4.1) (.cells #[.int .i64 (Dm.add m x n y).1, .int .i64 (Dm.add m x n y).2.1] 26)
        have Taba := Tab4.alloc (World.block_lt_of_cell? _ _ Tab4.1) (.cells #[.int .i64 (Dm.add m x n y).1, .int .i64 (Dm.add m x n y).2.1] 26)
        have Twanta := Two.new w4 (Dm.add m x n y).1 (Dm.add m x n y).2.1 26
        have hB5 := below_step hBa5 hb
        have Ta5 := Taa.below hb (World.block_lt_of_cell? _ _ Taa.1)
        have Tb5 := Tba.below hb (World.block_lt_of_cell? _ _ Tba.1)
        have Tc5 := Tca.below hb (World.block_lt_of_cell? _ _ Tca.1)
        have Tcc5 := Tcca.below hb (World.block_lt_of_cell? _ _ Tcca.1)
        have Tab5 := Taba.below hb (World.block_lt_of_cell? _ _ Taba.1)
        have Twant5 := Twanta.below hb (World.block_lt_of_cell? _ _ Twanta.1)
        clear hBa5 Taa Tba Tca Tcca Taba Twanta
        clear hb
        obtain ⟨ca0, ca1, -, -⟩ := id Ta5
        obtain ⟨cb0, cb1, -, -⟩ := id Tb5
        obtain ⟨cc0, cc1, -, -⟩ := id Tc5
        obtain ⟨ccc0, ccc1, -, -⟩ := id Tcc5
        obtain ⟨cab0, cab1, -, -⟩ := id Tab5
        obtain ⟨cwant0, cwant1, -, -⟩ := id Twant5
        go_wp2_with fail
        refine (iDecAdd_any _ _ _ _ _).mono ?_
        rintro e w6 ⟨rfl, hb⟩
        have hBa6 := hB5
        have hBa6 := below_step hBa6 ((Below.refl _ _).alloc (Nat.le_refl _) (.cells #[.int .i64 (Dm.add n y c z).1, .int .i64 (Dm.add n y c z).2.1] 26))
        have Taa := Ta5.alloc (World.block_lt_of_cell? _ _ Ta5.1) (.cells #[.int .i64 (Dm.add n y c z).1, .int .i64 (Dm.add n y c z).2.1] 26)
        have Tba := Tb5.alloc (World.block_lt_of_cell? _ _ Tb5.1) (.cells #[.int .i64 (Dm.add n y c z).1, .int .i64 (Dm.add n y c z).2.1] 26)
        have Tca := Tc5.alloc (World.block_lt_of_cell? _ _ Tc5.1) (.cells #[.int .i64 (Dm.add n y c z).1, .int .i64 (Dm.add n y c z).2.1] 26)
        have Tcca := Tcc5.alloc (World.block_lt_of_cell? _ _ Tcc5.1) (.cells #[.int .i64 (Dm.add n y c z).1, .int .i64 (Dm.add n y c z).2.1] 26)
        have Taba := Tab5.alloc (World.block_lt_of_cell? _ _ Tab5.1) (.cells #[.int .i64 (Dm.add n y c z).1, .int .i64 (Dm.add n y c z).2.1] 26)
        have Twanta := Twant5.alloc (World.block_lt_of_cell? _ _ Twant5.1) (.cells #[.int .i64 (Dm.add n y c z).1, .int .i64 (Dm.add n y c z).2.1] 26)
        have Tbca := Two.new w5 (Dm.add n y c z).1 (Dm.add n y c z).2.1 26
        have hB6 := below_step hBa6 hb
        have Ta6 := Taa.below hb (World.block_lt_of_cell? _ _ Taa.1)
        have Tb6 := Tba.below hb (World.block_lt_of_cell? _ _ Tba.1)
        have Tc6 := Tca.below hb (World.block_lt_of_cell? _ _ Tca.1)
        have Tcc6 := Tcca.below hb (World.block_lt_of_cell? _ _ Tcca.1)
        have Tab6 := Taba.below hb (World.block_lt_of_cell? _ _ Taba.1)
        have Twant6 := Twanta.below hb (World.block_lt_of_cell? _ _ Twanta.1)
        have Tbc6 := Tbca.below hb (World.block_lt_of_cell? _ _ Tbca.1)
        clear hBa6 Taa Tba Tca Tcca Taba Twanta Tbca
        clear hb
        obtain ⟨ca0, ca1, -, -⟩ := id Ta6
        obtain ⟨cb0, cb1, -, -⟩ := id Tb6
        obtain ⟨cc0, cc1, -, -⟩ := id Tc6
        obtain ⟨ccc0, ccc1, -, -⟩ := id Tcc6
        obtain ⟨cab0, cab1, -, -⟩ := id Tab6
        obtain ⟨cwant0, cwant1, -, -⟩ := id Twant6
        obtain ⟨cbc0, cbc1, -, -⟩ := id Tbc6
        go_wp2_with fail
        refine (iDecAdd_any _ _ _ _ _).mono ?_
        rintro e w7 ⟨rfl, hb⟩
        have hBa7 := hB6
        have hBa7 := below_step hBa7 ((Below.refl _ _).alloc (Nat.le_refl _) (.cells #[.int .i64 (Dm.add (Dm.add m x n y).1 (Dm.add m x n y).2.1 c z).1, .int .i64 (Dm.add (Dm.add m x n y).1 (Dm.add m x n y).2.1 c z).2.1] 26))
        have Taa := Ta6.alloc (World.block_lt_of_cell? _ _ Ta6.1) (.cells #[.int .i64 (Dm.add (Dm.add m x n y).1 (Dm.add m x n y).2.1 c z).1, .int .i64 (Dm.add (Dm.add m x n y).1 (Dm.add m x n y).2.1 c z).2.1] 26)
        have Tba := Tb6.alloc (World.block_lt_of_cell? _ _ Tb6.1) (.cells #[.int .i64 (Dm.add (Dm.add m x n y).1 (Dm.add m x n y).2.1 c z).1, .int .i64 (Dm.add (Dm.add m x n y).1 (Dm.add m x n y).2.1 c z).2.1] 26)
        have Tca := Tc6.alloc (World.block_lt_of_cell? _ _ Tc6.1) (.cells #[.int .i64 (Dm.add (Dm.add m x n y).1 (Dm.add m x n y).2.1 c z).1, .int .i64 (Dm.add (Dm.add m x n y).1 (Dm.add m x n y).2.1 c z).2.1] 26)
        have Tcca := Tcc6.alloc (World.block_lt_of_cell? _ _ Tcc6.1) (.cells #[.int .i64 (Dm.add (Dm.add m x n y).1 (Dm.add m x n y).2.1 c z).1, .int .i64 (Dm.add (Dm.add m x n y).1 (Dm.add m x n y).2.1 c z).2.1] 26)
        have Taba := Tab6.alloc (World.block_lt_of_cell? _ _ Tab6.1) (.cells #[.int .i64 (Dm.add (Dm.add m x n y).1 (Dm.add m x n y).2.1 c z).1, .int .i64 (Dm.add (Dm.add m x n y).1 (Dm.add m x n y).2.1 c z).2.1] 26)
        have Twanta := Twant6.alloc (World.block_lt_of_cell? _ _ Twant6.1) (.cells #[.int .i64 (Dm.add (Dm.add m x n y).1 (Dm.add m x n y).2.1 c z).1, .int .i64 (Dm.add (Dm.add m x n y).1 (Dm.add m x n y).2.1 c z).2.1] 26)
        have Tbca := Tbc6.alloc (World.block_lt_of_cell? _ _ Tbc6.1) (.cells #[.int .i64 (Dm.add (Dm.add m x n y).1 (Dm.add m x n y).2.1 c z).1, .int .i64 (Dm.add (Dm.add m x n y).1 (Dm.add m x n y).2.1 c z).2.1] 26)
        have Txa := Two.new w6 (Dm.add (Dm.add m x n y).1 (Dm.add m x n y).2.1 c z).1 (Dm.add (Dm.add m x n y).1 (Dm.add m x n y).2.1 c z).2.1 26
        have hB7 := below_step hBa7 hb
        have Ta7 := Taa.below hb (World.block_lt_of_cell? _ _ Taa.1)
        have Tb7 := Tba.below hb (World.block_lt_of_cell? _ _ Tba.1)
        have Tc7 := Tca.below hb (World.block_lt_of_cell? _ _ Tca.1)
        have Tcc7 := Tcca.below hb (World.block_lt_of_cell? _ _ Tcca.1)
        have Tab7 := Taba.below hb (World.block_lt_of_cell? _ _ Taba.1)
        have Twant7 := Twanta.below hb (World.block_lt_of_cell? _ _ Twanta.1)
        have Tbc7 := Tbca.below hb (World.block_lt_of_cell? _ _ Tbca.1)
        have Tx7 := Txa.below hb (World.block_lt_of_cell? _ _ Txa.1)
        clear hBa7 Taa Tba Tca Tcca Taba Twanta Tbca Txa
        clear hb
        obtain ⟨ca0, ca1, -, -⟩ := id Ta7
        obtain ⟨cb0, cb1, -, -⟩ := id Tb7
        obtain ⟨cc0, cc1, -, -⟩ := id Tc7
        obtain ⟨ccc0, ccc1, -, -⟩ := id Tcc7
        obtain ⟨cab0, cab1, -, -⟩ := id Tab7
        obtain ⟨cwant0, cwant1, -, -⟩ := id Twant7
        obtain ⟨cbc0, cbc1, -, -⟩ := id Tbc7
        obtain ⟨cx0, cx1, -, -⟩ := id Tx7
        generalize Dm.add (Dm.add m x n y).1 (Dm.add m x n y).2.1 c z = P at *
        generalize Dm.add m x (Dm.add n y c z).1 (Dm.add n y c z).2.1 = Q at *
        obtain ⟨P1, P2, Pb⟩ := P
        obtain ⟨Q1, Q2, Qb⟩ := Q
        have hcase : (Dm.add n y c z).2.2 = false ∨ ((Dm.add n y c z).2.2 = true ∧ Pb = false) ∨ ((Dm.add n y c z).2.2 = true ∧ Pb = true ∧ Qb = false) ∨ ((Dm.add n y c z).2.2 = true ∧ Pb = true ∧ Qb = true ∧ Q1 = P1 ∧ Q2 = P2) := by
          cases hbc : (Dm.add n y c z).2.2
          · exact .inl rfl
          · cases Pb
            · exact .inr (.inl ⟨rfl, rfl⟩)
            · cases Qb
              · exact .inr (.inr (.inl ⟨rfl, rfl, rfl⟩))
              · have := HAS.out hbc rfl rfl
                simp at this
                exact .inr (.inr (.inr ⟨rfl, rfl, rfl, this.1, this.2⟩))
        clear HAS
        rcases hcase with hbc | ⟨hbc, rfl⟩ | ⟨hbc, rfl, rfl⟩ | ⟨hbc, rfl, rfl, rfl, rfl⟩
        all_goals
          clear Tcc7 Twant7 Tbc7 ccc0 ccc1 cwant0 cwant1 cbc0 cbc1
          go_wp2_with fail
          refine (iDecMul_any _ _ _ _ _).mono ?_
          rintro e w8 ⟨rfl, hb⟩
          have hB8 := below_step (below_step hB7 ((Below.refl _ _).alloc (Nat.le_refl _) _)) hb
          have Ta8 := Two.step Ta7 hb
          have Tb8 := Two.step Tb7 hb
          have Tc8 := Two.step Tc7 hb
          have Tab8 := Two.step Tab7 hb
          clear hb
          clear cx0 cx1 Tx7
          obtain ⟨ca0, ca1, -, -⟩ := id Ta8
          obtain ⟨cb0, cb1, -, -⟩ := id Tb8
          obtain ⟨cc0, cc1, -, -⟩ := id Tc8
          obtain ⟨cab0, cab1, -, -⟩ := id Tab8
          go_wp2_with fail
          refine (iDecMul_any _ _ _ _ _).mono ?_
          rintro e w9 ⟨rfl, hb⟩
          have hB9 := below_step (below_step hB8 ((Below.refl _ _).alloc (Nat.le_refl _) _)) hb
          have Ta9 := Two.step Ta8 hb
          have Tb9 := Two.step Tb8 hb
          have Tc9 := Two.step Tc8 hb
          have Tab9 := Two.step Tab8 hb
          have Tp9 := Two.stepNew hb
          clear hb
          obtain ⟨ca0, ca1, -, -⟩ := id Ta9
          obtain ⟨cb0, cb1, -, -⟩ := id Tb9
          obtain ⟨cc0, cc1, -, -⟩ := id Tc9
          obtain ⟨cab0, cab1, -, -⟩ := id Tab9
          obtain ⟨cp0, cp1, -, -⟩ := id Tp9
          go_wp2_with fail
          refine (iDecMul_any _ _ _ _ _).mono ?_
          rintro e w10 ⟨rfl, hb⟩
          have hB10 := below_step (below_step hB9 ((Below.refl _ _).alloc (Nat.le_refl _) _)) hb
          have Ta10 := Two.step Ta9 hb
          have Tb10 := Two.step Tb9 hb
          have Tc10 := Two.step Tc9 hb
          have Tab10 := Two.step Tab9 hb
          have Tp10 := Two.step Tp9 hb
          have Tq10 := Two.stepNew hb
          clear hb
          obtain ⟨ca0, ca1, -, -⟩ := id Ta10
          obtain ⟨cb0, cb1, -, -⟩ := id Tb10
          obtain ⟨cc0, cc1, -, -⟩ := id Tc10
          obtain ⟨cab0, cab1, -, -⟩ := id Tab10
          obtain ⟨cp0, cp1, -, -⟩ := id Tp10
          obtain ⟨cq0, cq1, -, -⟩ := id Tq10
          go_wp2_with fail
          refine (iDecAdd_any _ _ _ _ _).mono ?_
          rintro e w11 ⟨rfl, hb⟩
          have hB11 := below_step (below_step hB10 ((Below.refl _ _).alloc (Nat.le_refl _) _)) hb
          have Ta11 := Two.step Ta10 hb
          have Tb11 := Two.step Tb10 hb
          have Tc11 := Two.step Tc10 hb
          have Tab11 := Two.step Tab10 hb
          have Tp11 := Two.step Tp10 hb
          have Tq11 := Two.step Tq10 hb
          have Tr11 := Two.stepNew hb
          clear hb
          obtain ⟨ca0, ca1, -, -⟩ := id Ta11
          obtain ⟨cb0, cb1, -, -⟩ := id Tb11
          obtain ⟨cc0, cc1, -, -⟩ := id Tc11
          obtain ⟨cab0, cab1, -, -⟩ := id Tab11
          obtain ⟨cp0, cp1, -, -⟩ := id Tp11
          obtain ⟨cq0, cq1, -, -⟩ := id Tq11
          obtain ⟨cr0, cr1, -, -⟩ := id Tr11
          have hm := HMA.out
          clear HMA
          cases h1 : (Dm.mul (Dm.add m x n y).1 (Dm.add m x n y).2.1 c z).2.2 <;> cases h2 : (Dm.mul m x c z).2.2 <;> cases h3 : (Dm.mul n y c z).2.2 <;> cases h4 : (Dm.add (Dm.mul m x c z).1 (Dm.mul m x c z).2.1 (Dm.mul n y c z).1 (Dm.mul n y c z).2.1).2.2
          all_goals
            try (have hm2 := hm h1 h2 h3 h4)
            go_wp2_with fail
            go_ret
            exact ⟨rfl, below_step hB11 ((Below.refl _ _).alloc (Nat.le_refl _) _)⟩
end Go.Proofs.Ythpnbjigpdgmpaa
