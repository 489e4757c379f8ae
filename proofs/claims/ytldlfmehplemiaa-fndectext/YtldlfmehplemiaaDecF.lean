/- Contracts: l1Add, DecAdd of both sides. -/
import Derived.Test.YtldlfmehplemiaaDecE
namespace Go.Proofs.Ytldlfmehplemiaa
open Go.RowKit

theorem hideIt {p : Prop} (h : p) : Hid p := h
theorem Dm.up_bd (k : Nat) (n : Int) (h1 : -1000000000 ≤ n) (h2 : n ≤ 1000000000) : -1000000000 ≤ (Dm.up k n).1 ∧ (Dm.up k n).1 ≤ 1000000000 := by
  induction k generalizing n with
  | zero => exact ⟨h1, h2⟩
  | succ k ih =>
    rw [Dm.up]
    by_cases h : 1000000000 < n * 10 ∨ n * 10 < -1000000000
    · rw [if_pos h]; exact ⟨by decide, by decide⟩
    · rw [if_neg h]; exact ih _ (by omega) (by omega)

set_option maxHeartbeats 400000 in
theorem iDecAdd_any (m x n y : Int) (w : World) :
    Calls Try.prog 44 #[.agg #[.int .i64 m, .int .i64 x], .agg #[.int .i64 n, .int .i64 y]] w fun e w' => e = dec3 (Dm.add m x n y) ∧ Below w.heap.size w w' := by
  go_enter Try.func44, Try.ntmps44
  go_wp2_with fail
  refine (iDecOk_any _ _ _).mono ?_
  rintro e w1 ⟨rfl, hb1⟩
  have T1 := (Three.new w m x n y 0 0 _ _ _).below hb1
  have hB1 := (below3 w _ _ _).trans (hb1.mono (by simp; omega))
  clear hb1
  obtain ⟨⟨a0, a1, a2, a3⟩, ⟨b0, b1, b2, b3⟩, ⟨r0, r1, r2, r3⟩, hz⟩ := id T1
  cases ho : Dm.ok m x
  · have HF : Hid (Dm.add m x n y = (0, 0, false)) := by unfold Hid; simp [Dm.add, ho]
    go_wp2_with fail
    exact bodyPost_ret (v := .tuple #[.agg #[.int .i64 0, .int .i64 0], .bool false]) (by simp [results, Try.results44, go_sem, r0, r1]) rfl ⟨by rw [HF.out], (by (repeat' (first | assumption | exact Below.refl _ _ | refine Below.alloc ?_ ?_ _ | refine Below.setCell ?_ ?_ _ | refine Below.drew ?_ | refine below_drewN ?_ _)) <;> (first | omega | (simp <;> omega)))⟩
  · go_wp2_with fail
    refine (iDecOk_any _ _ _).mono ?_
    rintro e w2 ⟨rfl, hb2⟩
    have T2 := T1.below hb2
    have hB2 := hB1.trans (hb2.mono (by omega))
    clear hb2 hB1 T1 a0 a1 a2 a3 b0 b1 b2 b3 r0 r1 r2 r3
    obtain ⟨⟨a0, a1, a2, a3⟩, ⟨b0, b1, b2, b3⟩, ⟨r0, r1, r2, r3⟩, hz2⟩ := id T2
    cases hp : Dm.ok n y
    · have HF : Hid (Dm.add m x n y = (0, 0, false)) := by unfold Hid; simp [Dm.add, hp]
      go_wp2_with fail
      exact bodyPost_ret (v := .tuple #[.agg #[.int .i64 0, .int .i64 0], .bool false]) (by simp [results, Try.results44, go_sem, r0, r1]) rfl ⟨by rw [HF.out], (by (repeat' (first | assumption | exact Below.refl _ _ | refine Below.alloc ?_ ?_ _ | refine Below.setCell ?_ ?_ _ | refine Below.drew ?_ | refine below_drewN ?_ _)) <;> (first | omega | (simp <;> omega)))⟩
    · have HS : Hid (Dm.add m x n y = if (Dm.manAt m x (min x y)).2 = true ∧ (Dm.manAt n y (min x y)).2 = true then Dm.new ((Dm.manAt m x (min x y)).1 + (Dm.manAt n y (min x y)).1) (min x y) else (0, 0, false)) := by
        unfold Hid; rw [Dm.add, if_pos ⟨ho, hp⟩, Dm.add1]
      obtain ⟨m1, m2, x1, x2⟩ := Dm.ok_bd ho
      obtain ⟨n1, n2, y1, y2⟩ := Dm.ok_bd hp
      obtain ⟨u1, u2⟩ := Dm.manAt_bd (min x y) ho
      obtain ⟨v1, v2⟩ := Dm.manAt_bd (min x y) hp
      have q1 : min x y ≤ x := by omega
      have q2 : min x y ≤ y := by omega
      have q3 : -8 ≤ min x y := by omega
      have hmin : (x ≤ y ∧ min x y = x) ∨ (y < x ∧ min x y = y) := by omega
      rcases hmin with ⟨hxy, hmin⟩ | ⟨hxy, hmin⟩
      all_goals
        rw [hmin] at HS u1 u2 v1 v2 q1 q2 q3
        clear hmin
        go_wp2_with fail
        refine (manAt_any _ _ _ _ ho (by omega) (by omega)).mono ?_
        rintro e w3 ⟨rfl, hb3⟩
        have T3 := T2.below hb3
        have hB3 := hB2.trans (hb3.mono (by omega))
        clear hb3 hB2 T2 a0 a1 a2 a3 b0 b1 b2 b3 r0 r1 r2 r3
        obtain ⟨⟨a0, a1, a2, a3⟩, ⟨b0, b1, b2, b3⟩, ⟨r0, r1, r2, r3⟩, hz3⟩ := id T3
        go_wp2_with fail
        refine (manAt_any _ _ _ _ hp (by omega) (by omega)).mono ?_
        rintro e w4 ⟨rfl, hb4⟩
        have T4 := T3.below hb4
        have hB4 := hB3.trans (hb4.mono (by omega))
        clear hb4 hB3 T3 a0 a1 a2 a3 b0 b1 b2 b3 r0 r1 r2 r3
        obtain ⟨⟨a0, a1, a2, a3⟩, ⟨b0, b1, b2, b3⟩, ⟨r0, r1, r2, r3⟩, hz4⟩ := id T4
        generalize Dm.manAt m x _ = u at *
        generalize Dm.manAt n y _ = v at *
        obtain ⟨u, ub⟩ := u
        obtain ⟨v, vb⟩ := v
        cases ub
        · have HF : Hid (Dm.add m x n y = (0, 0, false)) := by unfold Hid; rw [HS.out]; simp
          clear HS
          go_wp2_with fail
          exact bodyPost_ret (v := .tuple #[.agg #[.int .i64 0, .int .i64 0], .bool false]) (by simp [results, Try.results44, go_sem, r0, r1]) rfl ⟨by rw [HF.out], (by (repeat' (first | assumption | exact Below.refl _ _ | refine Below.alloc ?_ ?_ _ | refine Below.setCell ?_ ?_ _ | refine Below.drew ?_ | refine below_drewN ?_ _)) <;> (first | omega | (simp <;> omega)))⟩
        · cases vb
          · have HF : Hid (Dm.add m x n y = (0, 0, false)) := by unfold Hid; rw [HS.out]; simp
            clear HS
            go_wp2_with fail
            exact bodyPost_ret (v := .tuple #[.agg #[.int .i64 0, .int .i64 0], .bool false]) (by simp [results, Try.results44, go_sem, r0, r1]) rfl ⟨by rw [HF.out], (by (repeat' (first | assumption | exact Below.refl _ _ | refine Below.alloc ?_ ?_ _ | refine Below.setCell ?_ ?_ _ | refine Below.drew ?_ | refine below_drewN ?_ _)) <;> (first | omega | (simp <;> omega)))⟩
          · have hF := HS.out
            simp only [and_self, if_true] at hF
            have HF := hideIt hF
            clear HS hF
            simp only at u1 u2 v1 v2
            go_wp2_with fail
            refine (iDecNew_any _ _ _).mono ?_
            rintro e w5 ⟨rfl, hb5⟩
            have T5 := T4.below hb5
            have hB5 := hB4.trans (hb5.mono (by omega))
            clear hb5 hB4 T4 a0 a1 a2 a3 b0 b1 b2 b3 r0 r1 r2 r3
            obtain ⟨-, -, ⟨r0, r1, r2, r3⟩, hz5⟩ := id T5
            rw [← HF.out]
            go_wp2_with fail
            exact bodyPost_ret (v := .tuple #[.agg #[.int .i64 (Dm.add m x n y).1, .int .i64 (Dm.add m x n y).2.1], .bool (Dm.add m x n y).2.2]) (by simp [results, Try.results44, go_sem, r0, r1]) rfl ⟨rfl, (by (repeat' (first | assumption | exact Below.refl _ _ | refine Below.alloc ?_ ?_ _ | refine Below.setCell ?_ ?_ _ | refine Below.drew ?_ | refine below_drewN ?_ _)) <;> (first | omega | (simp <;> omega)))⟩
end Go.Proofs.Ytldlfmehplemiaa
