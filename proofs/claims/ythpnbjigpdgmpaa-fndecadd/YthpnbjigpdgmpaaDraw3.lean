/- The draws that hand the draw of two on. -/
import Derived.Test.YthpnbjigpdgmpaaDraw2
namespace Go.Proofs.Ythpnbjigpdgmpaa
open Go.RowKit
attribute [local go_sem] cell_alloc_is frozen_alloc_is

set_option maxHeartbeats 1000000 in
theorem drawSub_any (W : World) (a : Option Addr) (len cap : Nat) (h : CodeIn W a len cap) :
    Calls Try.prog 21 #[.slice a len cap] W fun e w' => ∃ m x n y, e = dec22 m x n y ∧ Small m x ∧ Small n y ∧ Below W.heap.size W w' := by
  obtain ⟨W0, hW0⟩ : ∃ W0, W0 = (W.alloc (.cells #[.int .i64 0, .int .i64 0] 26)).alloc (.cells #[.int .i64 0, .int .i64 0] 26) := ⟨_, rfl⟩
  have hB0 : Below W.heap.size W W0 := by subst hW0; exact (by (repeat' (first | assumption | exact Below.refl _ _ | refine Below.alloc ?_ ?_ _ | refine Below.setCell ?_ ?_ _ | refine Below.drew ?_ | refine below_drewN ?_ _)) <;> (first | omega | (simp <;> omega)))
  have T0 : Two W0 W.heap.size 0 0 := by subst hW0; exact (Two.new _ _ _ _).alloc (by simp) _
  have U0 : Two W0 (W.heap.size + 1) 0 0 := by subst hW0; have := Two.new (W.alloc (.cells #[.int .i64 0, .int .i64 0] 26)) 0 0 26; rw [World.size_alloc] at this; exact this
  have hc := h.below hB0
  clear h
  go_enter Try.func21, Try.ntmps21
  go_wp2_with fail
  rw [← hW0]
  clear hW0
  refine (drawTwo_any _ _ _ _ hc).mono ?_
  rintro e w3 ⟨m, x, n, y, rfl, hm, hn, hb⟩
  have T3 := T0.below hb (World.block_lt_of_cell? _ _ T0.1)
  have U3 := U0.below hb (World.block_lt_of_cell? _ _ U0.1)
  have hB3 : Below W.heap.size W w3 := below_step hB0 hb
  clear T0 U0 hb hB0
  obtain ⟨c0, c1, f0, f1⟩ := id T3
  obtain ⟨d0, d1, g0, g1⟩ := id U3
  go_wp2_with fail
  refine bodyPost_ret (v := .tuple #[.agg #[.int .i64 m, .int .i64 x], .agg #[.int .i64 n, .int .i64 y]]) (by simp (maxDischargeDepth := 8) [results, Try.results21, go_sem, *]) rfl ⟨m, x, n, y, rfl, hm, hn, ?_⟩
  exact ((((hB3.setCell (p := ⟨W.heap.size, 0, none⟩) (Nat.le_refl _) _).setCell (p := ⟨W.heap.size, 1, none⟩) (Nat.le_refl _) _).setCell (p := ⟨W.heap.size + 1, 0, none⟩) (by simp) _).setCell (p := ⟨W.heap.size + 1, 1, none⟩) (by simp) _)

set_option maxHeartbeats 1000000 in
theorem drawMul_any (W : World) (a : Option Addr) (len cap : Nat) (h : CodeIn W a len cap) :
    Calls Try.prog 23 #[.slice a len cap] W fun e w' => ∃ m x n y, e = dec22 m x n y ∧ Small m x ∧ Small n y ∧ Below W.heap.size W w' := by
  obtain ⟨W0, hW0⟩ : ∃ W0, W0 = (W.alloc (.cells #[.int .i64 0, .int .i64 0] 26)).alloc (.cells #[.int .i64 0, .int .i64 0] 26) := ⟨_, rfl⟩
  have hB0 : Below W.heap.size W W0 := by subst hW0; exact (by (repeat' (first | assumption | exact Below.refl _ _ | refine Below.alloc ?_ ?_ _ | refine Below.setCell ?_ ?_ _ | refine Below.drew ?_ | refine below_drewN ?_ _)) <;> (first | omega | (simp <;> omega)))
  have T0 : Two W0 W.heap.size 0 0 := by subst hW0; exact (Two.new _ _ _ _).alloc (by simp) _
  have U0 : Two W0 (W.heap.size + 1) 0 0 := by subst hW0; have := Two.new (W.alloc (.cells #[.int .i64 0, .int .i64 0] 26)) 0 0 26; rw [World.size_alloc] at this; exact this
  have hc := h.below hB0
  clear h
  go_enter Try.func23, Try.ntmps23
  go_wp2_with fail
  rw [← hW0]
  clear hW0
  refine (drawTwo_any _ _ _ _ hc).mono ?_
  rintro e w3 ⟨m, x, n, y, rfl, hm, hn, hb⟩
  have T3 := T0.below hb (World.block_lt_of_cell? _ _ T0.1)
  have U3 := U0.below hb (World.block_lt_of_cell? _ _ U0.1)
  have hB3 : Below W.heap.size W w3 := below_step hB0 hb
  clear T0 U0 hb hB0
  obtain ⟨c0, c1, f0, f1⟩ := id T3
  obtain ⟨d0, d1, g0, g1⟩ := id U3
  go_wp2_with fail
  refine bodyPost_ret (v := .tuple #[.agg #[.int .i64 m, .int .i64 x], .agg #[.int .i64 n, .int .i64 y]]) (by simp (maxDischargeDepth := 8) [results, Try.results23, go_sem, *]) rfl ⟨m, x, n, y, rfl, hm, hn, ?_⟩
  exact ((((hB3.setCell (p := ⟨W.heap.size, 0, none⟩) (Nat.le_refl _) _).setCell (p := ⟨W.heap.size, 1, none⟩) (Nat.le_refl _) _).setCell (p := ⟨W.heap.size + 1, 0, none⟩) (by simp) _).setCell (p := ⟨W.heap.size + 1, 1, none⟩) (by simp) _)

set_option maxHeartbeats 1000000 in
theorem drawMod_any (W : World) (a : Option Addr) (len cap : Nat) (h : CodeIn W a len cap) :
    Calls Try.prog 31 #[.slice a len cap] W fun e w' => ∃ m x n y, e = dec22 m x n y ∧ Small m x ∧ Small n y ∧ Below W.heap.size W w' := by
  obtain ⟨W0, hW0⟩ : ∃ W0, W0 = (W.alloc (.cells #[.int .i64 0, .int .i64 0] 26)).alloc (.cells #[.int .i64 0, .int .i64 0] 26) := ⟨_, rfl⟩
  have hB0 : Below W.heap.size W W0 := by subst hW0; exact (by (repeat' (first | assumption | exact Below.refl _ _ | refine Below.alloc ?_ ?_ _ | refine Below.setCell ?_ ?_ _ | refine Below.drew ?_ | refine below_drewN ?_ _)) <;> (first | omega | (simp <;> omega)))
  have T0 : Two W0 W.heap.size 0 0 := by subst hW0; exact (Two.new _ _ _ _).alloc (by simp) _
  have U0 : Two W0 (W.heap.size + 1) 0 0 := by subst hW0; have := Two.new (W.alloc (.cells #[.int .i64 0, .int .i64 0] 26)) 0 0 26; rw [World.size_alloc] at this; exact this
  have hc := h.below hB0
  clear h
  go_enter Try.func31, Try.ntmps31
  go_wp2_with fail
  rw [← hW0]
  clear hW0
  refine (drawTwo_any _ _ _ _ hc).mono ?_
  rintro e w3 ⟨m, x, n, y, rfl, hm, hn, hb⟩
  have T3 := T0.below hb (World.block_lt_of_cell? _ _ T0.1)
  have U3 := U0.below hb (World.block_lt_of_cell? _ _ U0.1)
  have hB3 : Below W.heap.size W w3 := below_step hB0 hb
  clear T0 U0 hb hB0
  obtain ⟨c0, c1, f0, f1⟩ := id T3
  obtain ⟨d0, d1, g0, g1⟩ := id U3
  go_wp2_with fail
  refine bodyPost_ret (v := .tuple #[.agg #[.int .i64 m, .int .i64 x], .agg #[.int .i64 n, .int .i64 y]]) (by simp (maxDischargeDepth := 8) [results, Try.results31, go_sem, *]) rfl ⟨m, x, n, y, rfl, hm, hn, ?_⟩
  exact ((((hB3.setCell (p := ⟨W.heap.size, 0, none⟩) (Nat.le_refl _) _).setCell (p := ⟨W.heap.size, 1, none⟩) (Nat.le_refl _) _).setCell (p := ⟨W.heap.size + 1, 0, none⟩) (by simp) _).setCell (p := ⟨W.heap.size + 1, 1, none⟩) (by simp) _)

set_option maxHeartbeats 1000000 in
theorem drawCmp_any (W : World) (a : Option Addr) (len cap : Nat) (h : CodeIn W a len cap) :
    Calls Try.prog 34 #[.slice a len cap] W fun e w' => ∃ m x n y, e = dec22 m x n y ∧ Small m x ∧ Small n y ∧ Below W.heap.size W w' := by
  obtain ⟨W0, hW0⟩ : ∃ W0, W0 = (W.alloc (.cells #[.int .i64 0, .int .i64 0] 26)).alloc (.cells #[.int .i64 0, .int .i64 0] 26) := ⟨_, rfl⟩
  have hB0 : Below W.heap.size W W0 := by subst hW0; exact (by (repeat' (first | assumption | exact Below.refl _ _ | refine Below.alloc ?_ ?_ _ | refine Below.setCell ?_ ?_ _ | refine Below.drew ?_ | refine below_drewN ?_ _)) <;> (first | omega | (simp <;> omega)))
  have T0 : Two W0 W.heap.size 0 0 := by subst hW0; exact (Two.new _ _ _ _).alloc (by simp) _
  have U0 : Two W0 (W.heap.size + 1) 0 0 := by subst hW0; have := Two.new (W.alloc (.cells #[.int .i64 0, .int .i64 0] 26)) 0 0 26; rw [World.size_alloc] at this; exact this
  have hc := h.below hB0
  clear h
  go_enter Try.func34, Try.ntmps34
  go_wp2_with fail
  rw [← hW0]
  clear hW0
  refine (drawTwo_any _ _ _ _ hc).mono ?_
  rintro e w3 ⟨m, x, n, y, rfl, hm, hn, hb⟩
  have T3 := T0.below hb (World.block_lt_of_cell? _ _ T0.1)
  have U3 := U0.below hb (World.block_lt_of_cell? _ _ U0.1)
  have hB3 : Below W.heap.size W w3 := below_step hB0 hb
  clear T0 U0 hb hB0
  obtain ⟨c0, c1, f0, f1⟩ := id T3
  obtain ⟨d0, d1, g0, g1⟩ := id U3
  go_wp2_with fail
  refine bodyPost_ret (v := .tuple #[.agg #[.int .i64 m, .int .i64 x], .agg #[.int .i64 n, .int .i64 y]]) (by simp (maxDischargeDepth := 8) [results, Try.results34, go_sem, *]) rfl ⟨m, x, n, y, rfl, hm, hn, ?_⟩
  exact ((((hB3.setCell (p := ⟨W.heap.size, 0, none⟩) (Nat.le_refl _) _).setCell (p := ⟨W.heap.size, 1, none⟩) (Nat.le_refl _) _).setCell (p := ⟨W.heap.size + 1, 0, none⟩) (by simp) _).setCell (p := ⟨W.heap.size + 1, 1, none⟩) (by simp) _)

end Go.Proofs.Ythpnbjigpdgmpaa
