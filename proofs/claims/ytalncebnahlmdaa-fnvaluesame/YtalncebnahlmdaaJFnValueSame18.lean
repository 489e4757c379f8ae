/- My own texts, joined: DecH DecM. -/
import Derived.Test.YtalncebnahlmdaaJFnValueSame0
import Derived.Test.YtalncebnahlmdaaJFnValueSame8
/- Contracts: l1Abs, l1Quot, quotient. -/
namespace Go.Proofs.Ytalncebnahlmdaa
open Go.RowKit

end Go.Proofs.Ytalncebnahlmdaa
/- Contracts: l1Sign, l1Digits, cmp.Compare at int, DecCmp of the impl. -/
namespace Go.Proofs.Ytalncebnahlmdaa
open Go.RowKit
attribute [local go_sem] cell_alloc_is frozen_alloc_is

set_option maxHeartbeats 400000 in
theorem compare_any (a b : Int) (w : World) :
    Calls Try.prog 59 #[.int .i64 a, .int .i64 b] w fun e w' => e = .returned (.int .i64 (Dm.sgn (a - b))) ∧ w' = w := by
  rcases Dm.sgn_cases (a - b) with ⟨h, e⟩ | ⟨h, e⟩ | ⟨h, e⟩
  · rw [e]; clear e
    have h' : a < b := by omega
    clear h
    go_enter Try.func59, Try.ntmps59
    go_wp2
    go_ret
    exact ⟨rfl, rfl⟩
  · rw [e]; clear e
    have h' : a = b := by omega
    subst h'
    clear h
    go_enter Try.func59, Try.ntmps59
    go_wp2
    go_ret
    exact ⟨rfl, rfl⟩
  · rw [e]; clear e
    have h' : b < a := by omega
    have h2 : ¬ a < b := by omega
    clear h
    go_enter Try.func59, Try.ntmps59
    go_wp2
    go_ret
    exact ⟨rfl, rfl⟩

set_option maxHeartbeats 1000000 in
theorem iDecCmp_any (m x n y : Int) (w : World) :
    Calls Try.prog 60 #[.agg #[.int .i64 m, .int .i64 x], .agg #[.int .i64 n, .int .i64 y]] w fun e w' => e = .returned (.int .i64 (Dm.cmp m x n y)) ∧ Below w.heap.size w w' := by
  have pre : ∀ w1 : World, Below ((w.alloc (.cells #[.int .i64 m, .int .i64 x] 24)).alloc (.cells #[.int .i64 n, .int .i64 y] 24)).heap.size ((w.alloc (.cells #[.int .i64 m, .int .i64 x] 24)).alloc (.cells #[.int .i64 n, .int .i64 y] 24)) w1 → Held w1 w.heap.size (w.heap.size + 1) m x n y w1 ∧ Below w.heap.size w w1 := by
    intro w1 hb
    have h0 : Held ((w.alloc (.cells #[.int .i64 m, .int .i64 x] 24)).alloc (.cells #[.int .i64 n, .int .i64 y] 24)) w.heap.size (w.heap.size + 1) m x n y ((w.alloc (.cells #[.int .i64 m, .int .i64 x] 24)).alloc (.cells #[.int .i64 n, .int .i64 y] 24)) := Held.start (by simp) (by simp) (by simp) (by simp)
    have h1 := h0.below hb
    exact ⟨Held.start h1.1 h1.2.1 h1.2.2.1 h1.2.2.2.1, Below.trans (by (repeat' (first | assumption | exact Below.refl _ _ | refine Below.alloc ?_ ?_ _ | refine Below.setCell ?_ ?_ _ | refine Below.drew ?_ | refine below_drewN ?_ _)) <;> (first | omega | (simp <;> omega))) (hb.mono (by simp; omega))⟩
  have PRE := hideIt pre
  clear pre
  go_enter Try.func60, Try.ntmps60
  go_wp2_with fail
  refine (iDecOk_any _ _ _).mono ?_
  rintro e w1 ⟨rfl, hb1⟩
  obtain ⟨H1, hB1⟩ := PRE.out w1 hb1
  clear hb1 PRE
  obtain ⟨a0, a1, b0, b1, -⟩ := id H1
  cases ho : Dm.ok m x
  · have HF : Hid (Dm.cmp m x n y = 0) := by unfold Hid; simp [Dm.cmp, ho]
    go_wp2_with fail
    go_ret
    exact ⟨by rw [HF.out]; rfl, (by (repeat' (first | assumption | exact Below.refl _ _ | refine Below.alloc ?_ ?_ _ | refine Below.setCell ?_ ?_ _ | refine Below.drew ?_ | refine below_drewN ?_ _)) <;> (first | omega | (simp <;> omega)))⟩
  · go_wp2_with fail
    refine (iDecOk_any _ _ _).mono ?_
    rintro e w2 ⟨rfl, hb2⟩
    have H2 := H1.below hb2
    have hB2 := hB1.trans (hb2.mono hB1.size)
    clear H1 hB1 a0 a1 b0 b1
    obtain ⟨a0, a1, b0, b1, -⟩ := id H2
    clear hb2
    cases hp : Dm.ok n y
    · have HF : Hid (Dm.cmp m x n y = 0) := by unfold Hid; simp [Dm.cmp, hp]
      go_wp2_with fail
      go_ret
      exact ⟨by rw [HF.out]; rfl, (by (repeat' (first | assumption | exact Below.refl _ _ | refine Below.alloc ?_ ?_ _ | refine Below.setCell ?_ ?_ _ | refine Below.drew ?_ | refine below_drewN ?_ _)) <;> (first | omega | (simp <;> omega)))⟩
    · have HN := hideIt (Dm.cmp_near ho hp)
      have HA := hideIt (Dm.cmp_far1 ho hp)
      have HB := hideIt (Dm.cmp_far2 ho hp)
      obtain ⟨m1, m2, x1, x2⟩ := Dm.ok_bd ho
      obtain ⟨n1, n2, y1, y2⟩ := Dm.ok_bd hp
      obtain ⟨u1, u2⟩ := Dm.manAt_bd (min x y) ho
      obtain ⟨v1, v2⟩ := Dm.manAt_bd (min x y) hp
      have hmin : (x ≤ y ∧ min x y = x) ∨ (y < x ∧ min x y = y) := by omega
      rcases hmin with ⟨hxy, hmin⟩ | ⟨hxy, hmin⟩
      all_goals
        rw [hmin] at HN HA HB u1 u2 v1 v2
        clear hmin
        go_wp2_with fail
        refine (manAt_any _ _ _ _ ho (by omega) (by omega)).mono ?_
        rintro e w3 ⟨rfl, hb3⟩
        have H3 := H2.below hb3
        have hB3 := hB2.trans (hb3.mono hB2.size)
        clear H2 hB2 a0 a1 b0 b1 hb3
        obtain ⟨a0, a1, b0, b1, -⟩ := id H3
        go_wp2_with fail
        refine (manAt_any _ _ _ _ hp (by omega) (by omega)).mono ?_
        rintro e w4 ⟨rfl, hb4⟩
        have H4 := H3.below hb4
        have hB4 := hB3.trans (hb4.mono hB3.size)
        clear H3 hB3 a0 a1 b0 b1 hb4
        obtain ⟨a0, a1, b0, b1, -⟩ := id H4
        generalize Dm.manAt m x _ = u at *
        generalize Dm.manAt n y _ = v at *
        obtain ⟨u, ub⟩ := u
        obtain ⟨v, vb⟩ := v
        cases ub
        · have HF : Hid (Dm.cmp m x n y = Dm.sgn m) := HA.out rfl
          clear HN HA HB
          go_wp2_with fail
          refine (compare_any _ _ _).mono ?_
          rintro e w5 ⟨rfl, rfl⟩
          go_wp2_with fail
          go_ret
          exact ⟨by rw [HF.out]; rfl, hB4⟩
        · cases vb
          · have HF : Hid (Dm.cmp m x n y = Dm.sgn (-n)) := by unfold Hid; rw [HB.out rfl, Int.zero_sub]
            clear HN HA HB
            go_wp2_with fail
            refine (compare_any _ _ _).mono ?_
            rintro e w5 ⟨rfl, rfl⟩
            go_wp2_with fail
            go_ret
            exact ⟨by rw [HF.out]; rfl, hB4⟩
          · have HF : Hid (Dm.cmp m x n y = Dm.sgn (u - v)) := HN.out rfl rfl
            clear HN HA HB
            go_wp2_with fail
            refine (compare_any _ _ _).mono ?_
            rintro e w5 ⟨rfl, rfl⟩
            go_wp2_with fail
            go_ret
            exact ⟨by rw [HF.out]; rfl, hB4⟩

end Go.Proofs.Ytalncebnahlmdaa
