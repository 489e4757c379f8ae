/- Contract of DrawDecDiv. -/
import Derived.Test.YtldlfmehplemiaaDraw3
import Derived.Deep.RegionHeld3
import Derived.Deep.DeepCutAuto
namespace Go.Proofs.Ytldlfmehplemiaa
open Go.RowKit
attribute [local go_sem] cell_alloc_is frozen_alloc_is

/-- two decimals lie in blocks A and B -/
abbrev Four (A B : Nat) (m x n y : Int) (w' : World) : Prop :=
  w'.cell? ⟨A, 0, none⟩ = some (.int .i64 m) ∧ w'.cell? ⟨A, 1, none⟩ = some (.int .i64 x) ∧ w'.cell? ⟨B, 0, none⟩ = some (.int .i64 n) ∧ w'.cell? ⟨B, 1, none⟩ = some (.int .i64 y)
theorem Four.set {A B j : Nat} {m x n y : Int} {W : World} (h : Four A B m x n y W) (h1 : ¬ A = j) (h2 : ¬ B = j) (u v : Value) : Four A B m x n y ((W.setCell ⟨j, 0, none⟩ u).setCell ⟨j, 1, none⟩ v) := by
  have far : ∀ (W : World) c o o' v, ¬ c = j → (W.setCell ⟨j, o', none⟩ v).cell? ⟨c, o, none⟩ = W.cell? ⟨c, o, none⟩ := fun W c o o' v hc => World.cell?_setCell_other _ _ _ _ (fun e => hc (by simpa using congrArg Addr.block e.symm))
  obtain ⟨a, b, c, d⟩ := h
  exact ⟨by rw [far _ _ _ _ _ h1, far _ _ _ _ _ h1]; exact a, by rw [far _ _ _ _ _ h1, far _ _ _ _ _ h1]; exact b, by rw [far _ _ _ _ _ h2, far _ _ _ _ _ h2]; exact c, by rw [far _ _ _ _ _ h2, far _ _ _ _ _ h2]; exact d⟩

set_option maxHeartbeats 1000000 in
theorem drawDiv_any (W : World) (a : Option Addr) (len cap : Nat) (h : CodeIn W a len cap) :
    Calls Try.prog 15 #[.slice a len cap] W fun e w' => (∃ m x n y q, e = .returned (.tuple #[.agg #[.int .i64 m, .int .i64 x], .agg #[.int .i64 n, .int .i64 y], .int .i64 q]) ∧ Small m x ∧ Small n y ∧ (-1 ≤ q ∧ q ≤ 9)) ∧ Below W.heap.size W w' := by
  obtain ⟨W0, hW0⟩ : ∃ W0, W0 = (W.alloc (.cells #[.int .i64 0, .int .i64 0] 25)).alloc (.cells #[.int .i64 0, .int .i64 0] 25) := ⟨_, rfl⟩
  have hB0 : Below W.heap.size W W0 := by subst hW0; exact (by (repeat' (first | assumption | exact Below.refl _ _ | refine Below.alloc ?_ ?_ _ | refine Below.setCell ?_ ?_ _ | refine Below.drew ?_ | refine below_drewN ?_ _)) <;> (first | omega | (simp <;> omega)))
  have hsz : W0.heap.size = W.heap.size + 1 + 1 := by subst hW0; simp
  have T0 : Two W0 W.heap.size 0 0 := by subst hW0; exact (Two.new _ _ _ _).alloc (by simp) _
  have U0 : Two W0 (W.heap.size + 1) 0 0 := by subst hW0; have := Two.new (W.alloc (.cells #[.int .i64 0, .int .i64 0] 25)) 0 0 25; rw [World.size_alloc] at this; exact this
  have hc := h.below hB0
  have hlt1 : W.heap.size < W0.heap.size := by omega
  have hlt2 : W.heap.size + 1 < W0.heap.size := by omega
  have hne1 : ¬ W.heap.size = W0.heap.size := by omega
  have hne2 : ¬ W.heap.size + 1 = W0.heap.size := by omega
  have HSZ := hideIt3 hsz
  clear hsz h
  go_enter Try.func15, Try.ntmps15
  go_wp2_with fail
  rw [← hW0]
  clear hW0
  refine (l1Open_any _ _ _ _ hc).mono ?_
  rintro e w1 ⟨len', rfl, R1⟩
  have T1 := T0.below R1.1 hlt1
  have U1 := U0.below R1.1 hlt2
  go_wp2_with fail
  refine (l14AnyDec_any R1 (by omega)).mono ?_
  rintro e w2 ⟨m, x, p2, rfl, m1, m2, x1, x2, hp2, R2, O2⟩
  have T2 := T1.oth O2 hne1
  have U2 := U1.oth O2 hne2
  clear T0 T1 U0 U1 O2 R1
  go_wp2_with fail
  refine (l14AnyDec_any R2 (by omega)).mono ?_
  rintro e w3 ⟨n, y, p3, rfl, n1, n2, y1, y2, hp3, R3, O3⟩
  have T3 := T2.oth O3 hne1
  have U3 := U2.oth O3 hne2
  have hl3 := R3.lt
  clear T2 U2 O3 R2
  obtain ⟨W3, hW3⟩ : ∃ W3, W3 = ((w3.alloc (.cells #[.int .i64 m, .int .i64 x] 25)).alloc (.cells #[.int .i64 n, .int .i64 y] 25)) := ⟨_, rfl⟩
  have hB33 : Below w3.heap.size w3 W3 := by subst hW3; exact (((Below.refl _ _).alloc (Nat.le_refl _) _).alloc (by simp) _)
  have hs3 : W3.heap.size = w3.heap.size + 1 + 1 := by subst hW3; simp
  have A3 : Two W3 w3.heap.size m x := by subst hW3; exact (Two.new w3 m x 25).alloc (by simp) (.cells #[.int .i64 n, .int .i64 y] 25)
  have B3 : Two W3 (w3.heap.size + 1) n y := by subst hW3; have := Two.new (w3.alloc (.cells #[.int .i64 m, .int .i64 x] 25)) n y 25; rw [World.size_alloc] at this; exact this
  have R4 := R3.below hB33
  have T4 := T3.below hB33 (World.block_lt_of_cell? _ _ T3.1)
  have U4 := U3.below hB33 (World.block_lt_of_cell? _ _ U3.1)
  have hBa : Below W3.heap.size W3 (W3.alloc (.cells #[.int .i64 0, .int .i64 2, .int .i64 8, .int .i64 9, .int .i64 (-1), .int .i64 1] 3)).drew := ((Below.refl _ _).alloc (Nat.le_refl _) _).drew
  have R5 := R4.below hBa
  have A5 := A3.below hBa (World.block_lt_of_cell? _ _ A3.1)
  have B5 := B3.below hBa (World.block_lt_of_cell? _ _ B3.1)
  have T5 := T4.below hBa (World.block_lt_of_cell? _ _ T4.1)
  have U5 := U4.below hBa (World.block_lt_of_cell? _ _ U4.1)
  have F3 : Four w3.heap.size (w3.heap.size + 1) m x n y W3.drew := by
    have q := (Below.refl W3.heap.size W3).drew
    have A := A3.below q (World.block_lt_of_cell? _ _ A3.1)
    have B := B3.below q (World.block_lt_of_cell? _ _ B3.1)
    exact ⟨A.1, A.2.1, B.1, B.2.1⟩
  have F5 : Four w3.heap.size (w3.heap.size + 1) m x n y (W3.alloc (.cells #[.int .i64 0, .int .i64 2, .int .i64 8, .int .i64 9, .int .i64 (-1), .int .i64 1] 3)).drew := ⟨A5.1, A5.2.1, B5.1, B5.2.1⟩
  have CL : ∀ i, i < 6 → (W3.alloc (.cells #[.int .i64 0, .int .i64 2, .int .i64 8, .int .i64 9, .int .i64 (-1), .int .i64 1] 3)).drew.cell? ⟨W3.heap.size, i, none⟩ = some (.int .i64 ([0, 2, 8, 9, -1, 1].getD i 0)) := by
    intro i hi
    have : i = 0 ∨ i = 1 ∨ i = 2 ∨ i = 3 ∨ i = 4 ∨ i = 5 := by omega
    rcases this with rfl | rfl | rfl | rfl | rfl | rfl
    all_goals simp
  have hp5 : p3 ≤ 100000 := by omega
  have hneL : ¬ W3.heap.size = W0.heap.size := by omega
  have ne1 : ¬ w3.heap.size = W0.heap.size := by omega
  have ne2 : ¬ w3.heap.size + 1 = W0.heap.size := by omega
  have nf1 : ¬ w3.heap.size = W.heap.size := by omega
  have nf2 : ¬ w3.heap.size + 1 = W.heap.size := by omega
  have nf3 : ¬ w3.heap.size = W.heap.size + 1 := by omega
  have nf4 : ¬ w3.heap.size + 1 = W.heap.size + 1 := by omega
  have FIN : ∀ w5, Stepped W0.heap.size p3 (W3.alloc (.cells #[.int .i64 0, .int .i64 2, .int .i64 8, .int .i64 9, .int .i64 (-1), .int .i64 1] 3)).drew w5 → Four w3.heap.size (w3.heap.size + 1) m x n y w5 ∧ Two w5 W.heap.size 0 0 ∧ Two w5 (W.heap.size + 1) 0 0 ∧ Below W.heap.size W w5 := by
    intro w5 s5
    have O5 := (Oth.refl W0.heap.size _).stepped s5
    have R6 := R5.step s5
    have A6 := A5.oth O5 ne1
    have B6 := B5.oth O5 ne2
    exact ⟨⟨A6.1, A6.2.1, B6.1, B6.2.1⟩, T5.oth O5 hne1, U5.oth O5 hne2, hB0.trans (R6.1.mono (by omega))⟩
  clear A3 B3 A5 B5 T3 U3 T4 U4 T5 U5 R4 R3 hBa
  go_wp2_with fail
  rw [← hW3]
  clear hW3 hs3 hB33
  go_region_held3 (fun w' => w'.cell? ⟨w3.heap.size, 0, none⟩ = some (.int .i64 m) ∧ w'.cell? ⟨w3.heap.size, 1, none⟩ = some (.int .i64 x) ∧ w'.cell? ⟨w3.heap.size + 1, 0, none⟩ = some (.int .i64 n) ∧ w'.cell? ⟨w3.heap.size + 1, 1, none⟩ = some (.int .i64 y)) (first | with_reducible exact F3 | with_reducible exact F5 | with_reducible assumption | with_reducible exact Four.set (by with_reducible assumption) nf1 nf2 _ _ | with_reducible exact Four.set (by with_reducible assumption) nf3 nf4 _ _) ((go_at_call 40; refine (one_any R5 hp5 W3.heap.size 6 [0, 2, 8, 9, -1, 1] hneL rfl (by omega) (by omega) CL).mono ?_; rintro e w5 ⟨⟨q, rfl, hq⟩, s5⟩; obtain ⟨G1, ⟨c0, c1, f0, f1⟩, ⟨d0, d1, g0, g1⟩, G4⟩ := FIN w5 s5; have hqb : -1 ≤ q ∧ q ≤ 9 := (by simp at hq; omega); clear hq s5))
  all_goals
    clear FIN CL R5 F3 F5
    clear G1
    go_wp2_with fail
    exact bodyPost_ret (v := .tuple #[.agg #[.int .i64 m, .int .i64 x], .agg #[.int .i64 n, .int .i64 y], .int .i64 q]) (by simp [results, Try.results15, go_sem, c0, c1, d0, d1]) rfl ⟨⟨m, x, n, y, q, rfl, ⟨m1, m2, x1, x2⟩, ⟨n1, n2, y1, y2⟩, hqb⟩, (by (repeat' (first | assumption | exact Below.refl _ _ | refine Below.alloc ?_ ?_ _ | refine Below.setCell ?_ ?_ _ | refine Below.drew ?_ | refine below_drewN ?_ _)) <;> (first | omega | (simp <;> omega)))⟩
end Go.Proofs.Ytldlfmehplemiaa
