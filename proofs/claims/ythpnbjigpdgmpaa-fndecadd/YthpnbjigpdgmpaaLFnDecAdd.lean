/- The law FnDecAdd walked. -/
import Derived.Test.YthpnbjigpdgmpaaDraw3
import Derived.Test.YthpnbjigpdgmpaaDecG
import Derived.Test.YthpnbjigpdgmpaaDm5
import Derived.Test.YthpnbjigpdgmpaaDm10
import Derived.Test.YthpnbjigpdgmpaaHeld5
namespace Go.Proofs.Ythpnbjigpdgmpaa
open Go.RowKit
attribute [local go_sem] cell_alloc_is frozen_alloc_is

set_option maxHeartbeats 2000000 in
theorem walk_FnDecAdd (a0 : Option Addr) (len0 cap0 : Nat) (z0 : List Int) (w : World) (w0 : IsRow .u8 w a0 len0 cap0 z0) :
    Calls Try.prog 4 #[.slice a0 len0 cap0] w fun e w' => e = .returned (.bool true) ∧ Below w.heap.size w w' := by
  have hc := codeIn_of w0
  have hcap : len0 ≤ 9223372036854775807 := by have h1 := hc.2.1; have h2 := hc.2.2.1; unfold maxLen at h2; omega
  by_cases hl : 1048576 < len0
  · clear hc w0
    go_enter Try.func4, Try.ntmps4
    go_wp2
    go_ret
    exact ⟨rfl, Below.refl _ _⟩
  · have hB0 : Below w.heap.size w w := Below.refl _ _
    clear w0
    go_enter Try.func4, Try.ntmps4
    go_wp2_with fail
    refine (drawTwo_any _ _ _ _ hc).mono ?_
    rintro e w1 ⟨m, x, n, y, rfl, hm, hn, hb⟩
    have hB1 := below_step hB0 hb
    clear hb
    obtain ⟨m1, m2, x1, x2⟩ := hm
    obtain ⟨n1, n2, y1, y2⟩ := hn
    have HW := hideIt (Dm.add_comm3 m x n y)
    go_wp2_with fail
    refine (iDecAdd_any _ _ _ _ _).mono ?_
    rintro e w2 ⟨rfl, hb⟩
    have hBa2 := hB1
    have hBa2 := below_step hBa2 ((Below.refl _ _).alloc (Nat.le_refl _) (.cells #[.int .i64 m, .int .i64 x] 26))
    have Taa := Two.new w1 m x 26
    have hBa2 := below_step hBa2 ((Below.refl _ _).alloc (Nat.le_refl _) (.cells #[.int .i64 n, .int .i64 y] 26))
    have Taa := Taa.alloc (World.block_lt_of_cell? _ _ Taa.1) (.cells #[.int .i64 n, .int .i64 y] 26)
    have Tba := Two.new (w1.alloc (.cells #[.int .i64 m, .int .i64 x] 26)) n y 26
    rw [World.size_alloc] at Tba
    have hB2 := below_step hBa2 hb
    have Ta2 := Taa.below hb (World.block_lt_of_cell? _ _ Taa.1)
    have Tb2 := Tba.below hb (World.block_lt_of_cell? _ _ Tba.1)
    clear hBa2 Taa Tba
    clear hb
    obtain ⟨ca0, ca1, -, -⟩ := id Ta2
    obtain ⟨cb0, cb1, -, -⟩ := id Tb2
    go_wp2_with fail
    refine (iDecAdd_any _ _ _ _ _).mono ?_
    rintro e w3 ⟨rfl, hb⟩
    have hBa3 := hB2
    have hBa3 := below_step hBa3 ((Below.refl _ _).alloc (Nat.le_refl _) (.cells #[.int .i64 (Dm.add m x n y).1, .int .i64 (Dm.add m x n y).2.1] 26))
    have Taa := Ta2.alloc (World.block_lt_of_cell? _ _ Ta2.1) (.cells #[.int .i64 (Dm.add m x n y).1, .int .i64 (Dm.add m x n y).2.1] 26)
    have Tba := Tb2.alloc (World.block_lt_of_cell? _ _ Tb2.1) (.cells #[.int .i64 (Dm.add m x n y).1, .int .i64 (Dm.add m x n y).2.1] 26)
    have Txa := Two.new w2 (Dm.add m x n y).1 (Dm.add m x n y).2.1 26
    have hB3 := below_step hBa3 hb
    have Ta3 := Taa.below hb (World.block_lt_of_cell? _ _ Taa.1)
    have Tb3 := Tba.below hb (World.block_lt_of_cell? _ _ Tba.1)
    have Tx3 := Txa.below hb (World.block_lt_of_cell? _ _ Txa.1)
    clear hBa3 Taa Tba Txa
    clear hb
    obtain ⟨ca0, ca1, -, -⟩ := id Ta3
    obtain ⟨cb0, cb1, -, -⟩ := id Tb3
    obtain ⟨cx0, cx1, -, -⟩ := id Tx3
    rw [HW.out]
    clear HW
    go_wp2_with fail
    refine (sDecAdd_any _ _ _ _ _).mono ?_
    rintro e w4 ⟨rfl, hb⟩
    have hBa4 := hB3
    have hBa4 := below_step hBa4 ((Below.refl _ _).alloc (Nat.le_refl _) (.cells #[.int .i64 (Dm.add m x n y).1, .int .i64 (Dm.add m x n y).2.1] 26))
    have Taa := Ta3.alloc (World.block_lt_of_cell? _ _ Ta3.1) (.cells #[.int .i64 (Dm.add m x n y).1, .int .i64 (Dm.add m x n y).2.1] 26)
    have Tba := Tb3.alloc (World.block_lt_of_cell? _ _ Tb3.1) (.cells #[.int .i64 (Dm.add m x n y).1, .int .i64 (Dm.add m x n y).2.1] 26)
    have Txa := Tx3.alloc (World.block_lt_of_cell? _ _ Tx3.1) (.cells #[.int .i64 (Dm.add m x n y).1, .int .i64 (Dm.add m x n y).2.1] 26)
    have Tya := Two.new w3 (Dm.add m x n y).1 (Dm.add m x n y).2.1 26
    have hB4 := below_step hBa4 hb
    have Ta4 := Taa.below hb (World.block_lt_of_cell? _ _ Taa.1)
    have Tb4 := Tba.below hb (World.block_lt_of_cell? _ _ Tba.1)
    have Tx4 := Txa.below hb (World.block_lt_of_cell? _ _ Txa.1)
    have Ty4 := Tya.below hb (World.block_lt_of_cell? _ _ Tya.1)
    clear hBa4 Taa Tba Txa Tya
    clear hb
    obtain ⟨ca0, ca1, -, -⟩ := id Ta4
    obtain ⟨cb0, cb1, -, -⟩ := id Tb4
    obtain ⟨cx0, cx1, -, -⟩ := id Tx4
    obtain ⟨cy0, cy1, -, -⟩ := id Ty4
    have hokA := fun h => (Dm.add_ok (m := m) (x := x) (n := n) (y := y) h).1
    have HBK := hideIt (@Dm.back m x n y)
    have HOX := hideIt (fun h => (Dm.add_val (m := m) (x := x) (n := n) (y := y) h).2.2.1)
    generalize hM : Dm.add m x n y = r at *
    clear hM
    obtain ⟨p, u, okr⟩ := r
    simp only at *
    obtain ⟨W0, hW0⟩ : ∃ W0, W0 = w4.alloc (.cells #[.int .i64 p, .int .i64 u] 26) := ⟨_, rfl⟩
    have hBW : Below w.heap.size w W0 := by subst hW0; exact below_step hB4 ((Below.refl _ _).alloc (Nat.le_refl _) _)
    have Twa : Two W0 w4.heap.size p u := by subst hW0; exact Two.new _ _ _ _
    have Ta5 : Two W0 (w1.heap.size) m x := by subst hW0; exact Ta4.alloc (World.block_lt_of_cell? _ _ Ta4.1) _
    have Tb5 : Two W0 (w1.heap.size + 1) n y := by subst hW0; exact Tb4.alloc (World.block_lt_of_cell? _ _ Tb4.1) _
    have Tx5 : Two W0 (w2.heap.size) p u := by subst hW0; exact Tx4.alloc (World.block_lt_of_cell? _ _ Tx4.1) _
    have Ty5 : Two W0 (w3.heap.size) p u := by subst hW0; exact Ty4.alloc (World.block_lt_of_cell? _ _ Ty4.1) _
    have hStart := Held5.start Ta5 Tb5 Tx5 Ty5 Twa
    have hcase : (okr = true ∧ Dm.ok m x = true) ∨ (okr = false ∧ Dm.ok m x = true) ∨ (okr = false ∧ Dm.ok m x = false) := by
      cases okr
      · cases Dm.ok m x <;> simp
      · exact .inl ⟨rfl, hokA rfl⟩
    clear hokA Ta4 Tb4 Tx4 Ty4 Ta5 Tb5 Tx5 Ty5 Twa Ta3 Tb3 Tx3 Ta2 Tb2 ca0 ca1 cb0 cb1 cx0 cx1 cy0 cy1
    have OKI : ∀ v : World, Calls Try.prog 15 #[.agg #[.int .i64 m, .int .i64 x]] v fun e w' => e = .returned (.bool (Dm.ok m x)) ∧ Below v.heap.size v w' := fun v => iDecOk_any m x v
    have OKS : ∀ v : World, Calls Try.prog 19 #[.agg #[.int .i64 m, .int .i64 x]] v fun e w' => e = .returned (.bool (Dm.ok m x)) ∧ Below v.heap.size v w' := fun v => sDecOk_any m x v
    go_wp2_with fail
    rw [← hW0]
    clear hW0
    rcases hcase with ⟨rfl, ho⟩ | ⟨rfl, ho⟩ | ⟨rfl, ho⟩
    all_goals
      simp only [ho] at OKI OKS
      first | (go_region_held3 (fun w' => w'.cell? ⟨w1.heap.size, 0, none⟩ = some (.int .i64 m) ∧ w'.cell? ⟨w1.heap.size, 1, none⟩ = some (.int .i64 x) ∧ w'.cell? ⟨w1.heap.size + 1, 0, none⟩ = some (.int .i64 n) ∧ w'.cell? ⟨w1.heap.size + 1, 1, none⟩ = some (.int .i64 y) ∧ w'.cell? ⟨w2.heap.size, 0, none⟩ = some (.int .i64 p) ∧ w'.cell? ⟨w2.heap.size, 1, none⟩ = some (.int .i64 u) ∧ w'.cell? ⟨w3.heap.size, 0, none⟩ = some (.int .i64 p) ∧ w'.cell? ⟨w3.heap.size, 1, none⟩ = some (.int .i64 u) ∧ w'.cell? ⟨w4.heap.size, 0, none⟩ = some (.int .i64 p) ∧ w'.cell? ⟨w4.heap.size, 1, none⟩ = some (.int .i64 u) ∧ Below W0.heap.size W0 w') (first | exact hStart.drew | assumption) (first
        | (go_at_call 15; refine (OKI _).mono ?_; rintro e w1' ⟨rfl, hb1⟩; have hS : Held5 W0 w1.heap.size (w1.heap.size + 1) w2.heap.size w3.heap.size w4.heap.size m x n y p u p u p u w1' := Held5.below (by assumption) hb1; have hz := hb1.size; obtain ⟨hc1, hf1⟩ := bsome hb1; (try simp at hz); (try (have hbb := below_step (by assumption) hb1; obtain ⟨hc', hf'⟩ := bsome hbb)))
        | (go_at_call 19; refine (OKS _).mono ?_; rintro e w1' ⟨rfl, hb1⟩; have hS : Held5 W0 w1.heap.size (w1.heap.size + 1) w2.heap.size w3.heap.size w4.heap.size m x n y p u p u p u w1' := Held5.below (by assumption) hb1; have hz := hb1.size; obtain ⟨hc1, hf1⟩ := bsome hb1; (try simp at hz); (try (have hbb := below_step (by assumption) hb1; obtain ⟨hc', hf'⟩ := bsome hbb))))) | fail "region"
    · go_wp2_with fail
      refine (iDecSub_any _ _ _ _ _ (by omega) (by omega)).mono ?_
      rintro e w6 ⟨rfl, hb⟩
      have H6 : Held5 W0 w1.heap.size (w1.heap.size + 1) w2.heap.size w3.heap.size w4.heap.size m x n y p u p u p u w6 := Held5.below (by assumption) hb
      rw [HBK.out (by simp)]
      clear HBK hb
      have H6b := H6.2.2.2.2.2.2.2.2.2.2
      obtain ⟨a0', a1', b0', b1', x0', x1', -⟩ := id H6
      go_wp2_with fail
      refine (iDecAdd_any _ _ _ _ _).mono ?_
      rintro e w7 ⟨rfl, hb⟩
      rw [Dm.add_zero3 ho]
      have H7 : Held5 W0 w1.heap.size (w1.heap.size + 1) w2.heap.size w3.heap.size w4.heap.size m x n y p u p u p u w7 := Held5.below (H6.below ((Below.refl _ _).alloc (Nat.le_refl _) _)) hb
      have Tz := (Two.new w6 m x 26).below hb (by simp)
      clear hb a0' a1' b0' b1' x0' x1' H6b H6
      have hBW7 : Below w.heap.size w w7 := hBW.trans (H7.2.2.2.2.2.2.2.2.2.2.mono hBW.size)
      obtain ⟨a0', a1', b0', b1', x0', x1', -⟩ := id H7
      obtain ⟨z0', z1', -, -⟩ := id Tz
      have hox := HOX.out (by simp)
      go_wp2_with fail
      refine (iDecOk_any _ _ _).mono ?_
      rintro e w8 ⟨rfl, hb⟩
      rw [hox]
      have hBW8 := below_step (below_step hBW7 ((Below.refl _ _).alloc (Nat.le_refl _) _)) hb
      go_wp2_with fail
      go_ret
      exact ⟨rfl, hBW8⟩
    all_goals
      go_wp2_with fail
      go_ret
      exact ⟨rfl, hBW.trans ((by assumption : Held5 W0 w1.heap.size (w1.heap.size + 1) w2.heap.size w3.heap.size w4.heap.size m x n y p u p u p u _).2.2.2.2.2.2.2.2.2.2.mono hBW.size)⟩
end Go.Proofs.Ythpnbjigpdgmpaa
