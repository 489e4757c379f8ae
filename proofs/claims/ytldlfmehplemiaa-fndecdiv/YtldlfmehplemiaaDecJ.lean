/- Contracts: DecDiv of both sides. -/
import Derived.Test.YtldlfmehplemiaaDecI
namespace Go.Proofs.Ytldlfmehplemiaa
open Go.RowKit

set_option maxHeartbeats 1000000 in
theorem sDecDiv_any (m x n y p : Int) (w : World) :
    Calls Try.prog 17 #[.agg #[.int .i64 m, .int .i64 x], .agg #[.int .i64 n, .int .i64 y], .int .i64 p] w fun e w' => e = dec3 (Dm.div m x n y p) ∧ Below w.heap.size w w' := by
  go_enter Try.func17, Try.ntmps17
  go_wp2_with fail
  refine (sDecOk_any _ _ _).mono ?_
  rintro e w1 ⟨rfl, hb1⟩
  have T1 := (Three.new w m x n y 0 0 _ _ _).below hb1
  have hB1 := (below3 w _ _ _).trans (hb1.mono (by simp; omega))
  clear hb1
  obtain ⟨⟨a0, a1, a2, a3⟩, ⟨b0, b1, b2, b3⟩, ⟨r0, r1, r2, r3⟩, hz⟩ := id T1
  cases ho : Dm.ok m x
  · have HF : Hid (Dm.div m x n y p = (0, 0, false)) := by unfold Hid; simp [Dm.div, ho]
    go_wp2_with fail
    exact bodyPost_ret (v := .tuple #[.agg #[.int .i64 0, .int .i64 0], .bool false]) (by simp [results, Try.results17, go_sem, r0, r1]) rfl ⟨by rw [HF.out], (by (repeat' (first | assumption | exact Below.refl _ _ | refine Below.alloc ?_ ?_ _ | refine Below.setCell ?_ ?_ _ | refine Below.drew ?_ | refine below_drewN ?_ _)) <;> (first | omega | (simp <;> omega)))⟩
  · go_wp2_with fail
    refine (sDecOk_any _ _ _).mono ?_
    rintro e w2 ⟨rfl, hb2⟩
    have T2 := T1.below hb2
    have hB2 := hB1.trans (hb2.mono (by omega))
    clear hb2 hB1 T1 a0 a1 a2 a3 b0 b1 b2 b3 r0 r1 r2 r3
    obtain ⟨⟨a0, a1, a2, a3⟩, ⟨b0, b1, b2, b3⟩, ⟨r0, r1, r2, r3⟩, hz2⟩ := id T2
    cases hp : Dm.ok n y
    · have HF : Hid (Dm.div m x n y p = (0, 0, false)) := by unfold Hid; simp [Dm.div, hp]
      go_wp2_with fail
      exact bodyPost_ret (v := .tuple #[.agg #[.int .i64 0, .int .i64 0], .bool false]) (by simp [results, Try.results17, go_sem, r0, r1]) rfl ⟨by rw [HF.out], (by (repeat' (first | assumption | exact Below.refl _ _ | refine Below.alloc ?_ ?_ _ | refine Below.setCell ?_ ?_ _ | refine Below.drew ?_ | refine below_drewN ?_ _)) <;> (first | omega | (simp <;> omega)))⟩
    · by_cases hn0 : n = 0
      · have HF : Hid (Dm.div m x n y p = (0, 0, false)) := by unfold Hid; simp [Dm.div, hn0]
        have hnz : (n == 0) = true := by simp [hn0]
        clear hn0
        go_wp2_with fail
        exact bodyPost_ret (v := .tuple #[.agg #[.int .i64 0, .int .i64 0], .bool false]) (by simp [results, Try.results17, go_sem, r0, r1]) rfl ⟨by rw [HF.out], (by (repeat' (first | assumption | exact Below.refl _ _ | refine Below.alloc ?_ ?_ _ | refine Below.setCell ?_ ?_ _ | refine Below.drew ?_ | refine below_drewN ?_ _)) <;> (first | omega | (simp <;> omega)))⟩
      · have hnz : (n == 0) = false := by simp [hn0]
        by_cases hpp : 0 ≤ p ∧ p ≤ 8
        · obtain ⟨p1, p2⟩ := hpp
          have HF : Hid (Dm.div m x n y p = Dm.div1 m x n y p) := by unfold Hid; rw [Dm.div, if_pos ⟨ho, hp, hn0, p1, p2⟩]
          go_wp2_with (go_at_call 42; refine (l1In_any _ _ _ _).mono ?_; rintro e w' ⟨rfl, rfl⟩)
          refine (l1Div_any _ _ _ _ _ _ ho hp hn0 p1 p2).mono ?_
          rintro e w3 ⟨rfl, hb3⟩
          have T3 := T2.below hb3
          have hB3 := hB2.trans (hb3.mono (by omega))
          clear hb3 hB2 T2 a0 a1 a2 a3 b0 b1 b2 b3 r0 r1 r2 r3
          obtain ⟨-, -, ⟨r0, r1, r2, r3⟩, hz3⟩ := id T3
          go_wp2_with fail
          exact bodyPost_ret (v := .tuple #[.agg #[.int .i64 (Dm.div1 m x n y p).1, .int .i64 (Dm.div1 m x n y p).2.1], .bool (Dm.div1 m x n y p).2.2]) (by simp [results, Try.results17, go_sem, r0, r1]) rfl ⟨by rw [HF.out], (by (repeat' (first | assumption | exact Below.refl _ _ | refine Below.alloc ?_ ?_ _ | refine Below.setCell ?_ ?_ _ | refine Below.drew ?_ | refine below_drewN ?_ _)) <;> (first | omega | (simp <;> omega)))⟩
        · have HF : Hid (Dm.div m x n y p = (0, 0, false)) := by unfold Hid; rw [Dm.div, if_neg (fun h => hpp h.2.2.2)]
          have hq : (p < 0 ∧ decide (0 ≤ p) = false) ∨ (8 < p ∧ decide (p ≤ 8) = false) := by simp only [decide_eq_false_iff_not]; omega
          clear hpp
          rcases hq with ⟨hq, hq'⟩ | ⟨hq, hq'⟩
          all_goals
            go_wp2_with (go_at_call 42; refine (l1In_any _ _ _ _).mono ?_; rintro e w' ⟨rfl, rfl⟩)
            exact bodyPost_ret (v := .tuple #[.agg #[.int .i64 0, .int .i64 0], .bool false]) (by simp [results, Try.results17, go_sem, r0, r1]) rfl ⟨by rw [HF.out], (by (repeat' (first | assumption | exact Below.refl _ _ | refine Below.alloc ?_ ?_ _ | refine Below.setCell ?_ ?_ _ | refine Below.drew ?_ | refine below_drewN ?_ _)) <;> (first | omega | (simp <;> omega)))⟩

set_option maxHeartbeats 1000000 in
theorem iDecDiv_any (m x n y p : Int) (w : World) :
    Calls Try.prog 16 #[.agg #[.int .i64 m, .int .i64 x], .agg #[.int .i64 n, .int .i64 y], .int .i64 p] w fun e w' => e = dec3 (Dm.div m x n y p) ∧ Below w.heap.size w w' := by
  go_enter Try.func16, Try.ntmps16
  go_wp2_with fail
  refine (iDecOk_any _ _ _).mono ?_
  rintro e w1 ⟨rfl, hb1⟩
  have T1 := (Three.new w m x n y 0 0 _ _ _).below hb1
  have hB1 := (below3 w _ _ _).trans (hb1.mono (by simp; omega))
  clear hb1
  obtain ⟨⟨a0, a1, a2, a3⟩, ⟨b0, b1, b2, b3⟩, ⟨r0, r1, r2, r3⟩, hz⟩ := id T1
  cases ho : Dm.ok m x
  · have HF : Hid (Dm.div m x n y p = (0, 0, false)) := by unfold Hid; simp [Dm.div, ho]
    go_wp2_with fail
    exact bodyPost_ret (v := .tuple #[.agg #[.int .i64 0, .int .i64 0], .bool false]) (by simp [results, Try.results16, go_sem, r0, r1]) rfl ⟨by rw [HF.out], (by (repeat' (first | assumption | exact Below.refl _ _ | refine Below.alloc ?_ ?_ _ | refine Below.setCell ?_ ?_ _ | refine Below.drew ?_ | refine below_drewN ?_ _)) <;> (first | omega | (simp <;> omega)))⟩
  · go_wp2_with fail
    refine (iDecOk_any _ _ _).mono ?_
    rintro e w2 ⟨rfl, hb2⟩
    have T2 := T1.below hb2
    have hB2 := hB1.trans (hb2.mono (by omega))
    clear hb2 hB1 T1 a0 a1 a2 a3 b0 b1 b2 b3 r0 r1 r2 r3
    obtain ⟨⟨a0, a1, a2, a3⟩, ⟨b0, b1, b2, b3⟩, ⟨r0, r1, r2, r3⟩, hz2⟩ := id T2
    cases hp : Dm.ok n y
    · have HF : Hid (Dm.div m x n y p = (0, 0, false)) := by unfold Hid; simp [Dm.div, hp]
      go_wp2_with fail
      exact bodyPost_ret (v := .tuple #[.agg #[.int .i64 0, .int .i64 0], .bool false]) (by simp [results, Try.results16, go_sem, r0, r1]) rfl ⟨by rw [HF.out], (by (repeat' (first | assumption | exact Below.refl _ _ | refine Below.alloc ?_ ?_ _ | refine Below.setCell ?_ ?_ _ | refine Below.drew ?_ | refine below_drewN ?_ _)) <;> (first | omega | (simp <;> omega)))⟩
    · by_cases hn0 : n = 0
      · have HF : Hid (Dm.div m x n y p = (0, 0, false)) := by unfold Hid; simp [Dm.div, hn0]
        have hnz : (n == 0) = true := by simp [hn0]
        clear hn0
        go_wp2_with fail
        exact bodyPost_ret (v := .tuple #[.agg #[.int .i64 0, .int .i64 0], .bool false]) (by simp [results, Try.results16, go_sem, r0, r1]) rfl ⟨by rw [HF.out], (by (repeat' (first | assumption | exact Below.refl _ _ | refine Below.alloc ?_ ?_ _ | refine Below.setCell ?_ ?_ _ | refine Below.drew ?_ | refine below_drewN ?_ _)) <;> (first | omega | (simp <;> omega)))⟩
      · have hnz : (n == 0) = false := by simp [hn0]
        by_cases hpp : 0 ≤ p ∧ p ≤ 8
        · obtain ⟨p1, p2⟩ := hpp
          have HF : Hid (Dm.div m x n y p = Dm.div1 m x n y p) := by unfold Hid; rw [Dm.div, if_pos ⟨ho, hp, hn0, p1, p2⟩]
          have HG : Hid (Dm.div1 m x n y p = if (Dm.quot m n (x - y + p)).2 = true then Dm.norm (Dm.quot m n (x - y + p)).1 (-p) else (0, 0, false)) := by unfold Hid; rw [Dm.div1]
          obtain ⟨m1, m2, x1, x2⟩ := Dm.ok_bd ho
          obtain ⟨n1, n2, y1, y2⟩ := Dm.ok_bd hp
          obtain ⟨u1, u2⟩ := Dm.quot_bd (n := m) (m := n) (x - y + p) hn0 m1 m2
          go_wp2_with fail
          refine (quotient_any _ _ _ _ hn0 n1 n2 m1 m2 (by omega) (by omega)).mono ?_
          rintro e w3 ⟨rfl, k, rfl⟩
          have T3 := T2.below (w' := w2.drewN k) (below_drewN (Below.refl _ _) _)
          have hB3 : Below w.heap.size w (w2.drewN k) := below_drewN hB2 _
          generalize Dm.quot m n (x - y + p) = Q at *
          obtain ⟨q, qb⟩ := Q
          simp only at u1 u2
          cases qb
          · have HE : Hid (Dm.div m x n y p = (0, 0, false)) := by unfold Hid; rw [HF.out, HG.out]; simp
            clear HG HF
            go_wp2_with fail
            exact bodyPost_ret (v := .tuple #[.agg #[.int .i64 0, .int .i64 0], .bool false]) (by simp [results, Try.results16, go_sem, r0, r1]) rfl ⟨by rw [HE.out], (by (repeat' (first | assumption | exact Below.refl _ _ | refine Below.alloc ?_ ?_ _ | refine Below.setCell ?_ ?_ _ | refine Below.drew ?_ | refine below_drewN ?_ _)) <;> (first | omega | (simp <;> omega)))⟩
          · have HE : Hid (Dm.div m x n y p = Dm.new q (-p)) := by unfold Hid; rw [HF.out, HG.out, Dm.new_norm (by omega) (by omega) (by omega) (by omega)]; simp
            clear HG HF
            go_wp2_with fail
            refine (iDecNew_any _ _ _).mono ?_
            rintro e w4 ⟨rfl, hb4⟩
            have T4 := T3.below hb4
            have hB4 := hB3.trans (hb4.mono (by simp; omega))
            clear hb4 hB3 hB2 T3 T2 a0 a1 a2 a3 b0 b1 b2 b3 r0 r1 r2 r3
            obtain ⟨-, -, ⟨r0, r1, r2, r3⟩, hz4⟩ := id T4
            go_wp2_with fail
            exact bodyPost_ret (v := .tuple #[.agg #[.int .i64 (Dm.new q (-p)).1, .int .i64 (Dm.new q (-p)).2.1], .bool (Dm.new q (-p)).2.2]) (by simp [results, Try.results16, go_sem, r0, r1]) rfl ⟨by rw [HE.out], (by (repeat' (first | assumption | exact Below.refl _ _ | refine Below.alloc ?_ ?_ _ | refine Below.setCell ?_ ?_ _ | refine Below.drew ?_ | refine below_drewN ?_ _)) <;> (first | omega | (simp <;> omega)))⟩
        · have HF : Hid (Dm.div m x n y p = (0, 0, false)) := by unfold Hid; rw [Dm.div, if_neg (fun h => hpp h.2.2.2)]
          have hq : (p < 0 ∧ decide (0 ≤ p) = false) ∨ (8 < p ∧ decide (p ≤ 8) = false) := by simp only [decide_eq_false_iff_not]; omega
          clear hpp
          rcases hq with ⟨hq, hq'⟩ | ⟨hq, hq'⟩
          all_goals
            go_wp2_with fail
            exact bodyPost_ret (v := .tuple #[.agg #[.int .i64 0, .int .i64 0], .bool false]) (by simp [results, Try.results16, go_sem, r0, r1]) rfl ⟨by rw [HF.out], (by (repeat' (first | assumption | exact Below.refl _ _ | refine Below.alloc ?_ ?_ _ | refine Below.setCell ?_ ?_ _ | refine Below.drew ?_ | refine below_drewN ?_ _)) <;> (first | omega | (simp <;> omega)))⟩
end Go.Proofs.Ytldlfmehplemiaa
