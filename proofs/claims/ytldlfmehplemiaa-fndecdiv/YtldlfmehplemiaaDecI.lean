/- Contracts: l1Div, DecDiv of both sides. -/
import Derived.Test.YtldlfmehplemiaaDecH
namespace Go.Proofs.Ytldlfmehplemiaa
open Go.RowKit

theorem Dm.quot_abs (m n e : Int) : Dm.quot m n e = (if (decide (m < 0) != decide (n < 0)) = true then -(Dm.quot m.natAbs n.natAbs e).1 else (Dm.quot m.natAbs n.natAbs e).1, (Dm.quot m.natAbs n.natAbs e).2) := by
  by_cases hm : m < 0
  · by_cases hn : n < 0
    · have e1 : (m.natAbs : Int) = -m := by omega
      have e2 : (n.natAbs : Int) = -n := by omega
      rw [e1, e2, Dm.quot_negl, Dm.quot_negr]; simp [hm, hn]
    · have e1 : (m.natAbs : Int) = -m := by omega
      have e2 : (n.natAbs : Int) = n := by omega
      rw [e1, e2, Dm.quot_negl]; simp [hm, hn]
  · by_cases hn : n < 0
    · have e1 : (m.natAbs : Int) = m := by omega
      have e2 : (n.natAbs : Int) = -n := by omega
      rw [e1, e2, Dm.quot_negr]; simp [hm, hn]
    · have e1 : (m.natAbs : Int) = m := by omega
      have e2 : (n.natAbs : Int) = n := by omega
      rw [e1, e2]; simp [hm, hn]

set_option maxHeartbeats 1000000 in
theorem l1Div_any (m x n y p : Int) (w : World) (hm : Dm.ok m x = true) (hn : Dm.ok n y = true) (hn0 : n ≠ 0) (p1 : 0 ≤ p) (p2 : p ≤ 8) :
    Calls Try.prog 43 #[.agg #[.int .i64 m, .int .i64 x], .agg #[.int .i64 n, .int .i64 y], .int .i64 p] w fun e w' => e = dec3 (Dm.div1 m x n y p) ∧ Below w.heap.size w w' := by
  obtain ⟨m1, m2, x1, x2⟩ := Dm.ok_bd hm
  obtain ⟨n1, n2, y1, y2⟩ := Dm.ok_bd hn
  clear hm hn
  obtain ⟨u1, u2⟩ := Dm.quot_bd (n := (m.natAbs : Int)) (m := (n.natAbs : Int)) (x - y + p) (by omega) (by omega) (by omega)
  have HD := hideIt (Dm.quot_abs m n (x - y + p))
  go_enter Try.func43, Try.ntmps43
  go_wp2_with fail
  go_quiet ((first | (go_at_call 62; exact Calls.quiet_of_same (l1Abs_any _ _ (by omega) (by omega))) | (go_at_call 61; exact Calls.quiet_of (l1Quot_any _ _ _ _ (by omega) (by omega) (by omega) (by omega) (by omega) (by omega) (by omega)))))
  have HG : Hid (Dm.div1 m x n y p = if (Dm.quot m n (x - y + p)).2 = true then Dm.norm (Dm.quot m n (x - y + p)).1 (-p) else (0, 0, false)) := by unfold Hid; rw [Dm.div1]
  generalize Dm.quot (m.natAbs : Int) (n.natAbs : Int) (x - y + p) = Q at *
  obtain ⟨q, qb⟩ := Q
  simp only at u1 u2
  cases qb
  · have HF : Hid (Dm.div1 m x n y p = (0, 0, false)) := by unfold Hid; rw [HG.out, HD.out]; simp
    clear HG HD
    go_wp2_with fail
    exact bodyPost_ret (v := .tuple #[.agg #[.int .i64 0, .int .i64 0], .bool false]) (by simp [results, Try.results43, go_sem]) rfl ⟨by rw [HF.out], (by (repeat' (first | assumption | exact Below.refl _ _ | refine Below.alloc ?_ ?_ _ | refine Below.setCell ?_ ?_ _ | refine Below.drew ?_ | refine below_drewN ?_ _)) <;> (first | omega | (simp <;> omega)))⟩
  · by_cases hm : m < 0
    · by_cases hn : n < 0
      · have HF : Hid (Dm.div1 m x n y p = Dm.norm q (-p)) := by unfold Hid; rw [HG.out, HD.out]; simp [hm, hn]
        clear HG HD
        go_wp2_with fail
        refine (l1New_any _ _ _ (by omega) (by omega) (by omega) (by omega)).mono ?_
        rintro e w3 ⟨rfl, hb3⟩
        have T3 := (Three.new w m x n y 0 0 25 25 25).below (below_drewN (Below.refl _ _) _) |>.below hb3
        have hB3 := (below_drewN (below3 w (.cells #[.int .i64 m, .int .i64 x] 25) (.cells #[.int .i64 n, .int .i64 y] 25) (.cells #[.int .i64 0, .int .i64 0] 25)) _).trans (hb3.mono (by simp; omega))
        clear hb3
        obtain ⟨-, -, ⟨r0, r1, r2, r3⟩, hz3⟩ := id T3
        go_wp2_with fail
        exact bodyPost_ret (v := .tuple #[.agg #[.int .i64 (Dm.norm (q) (-p)).1, .int .i64 (Dm.norm (q) (-p)).2.1], .bool (Dm.norm (q) (-p)).2.2]) (by simp [results, Try.results43, go_sem, r0, r1]) rfl ⟨by rw [HF.out], (by (repeat' (first | assumption | exact Below.refl _ _ | refine Below.alloc ?_ ?_ _ | refine Below.setCell ?_ ?_ _ | refine Below.drew ?_ | refine below_drewN ?_ _)) <;> (first | omega | (simp <;> omega)))⟩
      · have HF : Hid (Dm.div1 m x n y p = Dm.norm (-q) (-p)) := by unfold Hid; rw [HG.out, HD.out]; simp [hm, hn]
        have hn' : decide (n < 0) = false := by simp; omega
        clear HG HD
        go_wp2_with fail
        refine (l1New_any _ _ _ (by omega) (by omega) (by omega) (by omega)).mono ?_
        rintro e w3 ⟨rfl, hb3⟩
        have T3 := (Three.new w m x n y 0 0 25 25 25).below (below_drewN (Below.refl _ _) _) |>.below hb3
        have hB3 := (below_drewN (below3 w (.cells #[.int .i64 m, .int .i64 x] 25) (.cells #[.int .i64 n, .int .i64 y] 25) (.cells #[.int .i64 0, .int .i64 0] 25)) _).trans (hb3.mono (by simp; omega))
        clear hb3
        obtain ⟨-, -, ⟨r0, r1, r2, r3⟩, hz3⟩ := id T3
        go_wp2_with fail
        exact bodyPost_ret (v := .tuple #[.agg #[.int .i64 (Dm.norm (-q) (-p)).1, .int .i64 (Dm.norm (-q) (-p)).2.1], .bool (Dm.norm (-q) (-p)).2.2]) (by simp [results, Try.results43, go_sem, r0, r1]) rfl ⟨by rw [HF.out], (by (repeat' (first | assumption | exact Below.refl _ _ | refine Below.alloc ?_ ?_ _ | refine Below.setCell ?_ ?_ _ | refine Below.drew ?_ | refine below_drewN ?_ _)) <;> (first | omega | (simp <;> omega)))⟩
    · have hm' : decide (m < 0) = false := by simp; omega
      by_cases hn : n < 0
      · have HF : Hid (Dm.div1 m x n y p = Dm.norm (-q) (-p)) := by unfold Hid; rw [HG.out, HD.out]; simp [hm, hn]
        clear HG HD
        go_wp2_with fail
        refine (l1New_any _ _ _ (by omega) (by omega) (by omega) (by omega)).mono ?_
        rintro e w3 ⟨rfl, hb3⟩
        have T3 := (Three.new w m x n y 0 0 25 25 25).below (below_drewN (Below.refl _ _) _) |>.below hb3
        have hB3 := (below_drewN (below3 w (.cells #[.int .i64 m, .int .i64 x] 25) (.cells #[.int .i64 n, .int .i64 y] 25) (.cells #[.int .i64 0, .int .i64 0] 25)) _).trans (hb3.mono (by simp; omega))
        clear hb3
        obtain ⟨-, -, ⟨r0, r1, r2, r3⟩, hz3⟩ := id T3
        go_wp2_with fail
        exact bodyPost_ret (v := .tuple #[.agg #[.int .i64 (Dm.norm (-q) (-p)).1, .int .i64 (Dm.norm (-q) (-p)).2.1], .bool (Dm.norm (-q) (-p)).2.2]) (by simp [results, Try.results43, go_sem, r0, r1]) rfl ⟨by rw [HF.out], (by (repeat' (first | assumption | exact Below.refl _ _ | refine Below.alloc ?_ ?_ _ | refine Below.setCell ?_ ?_ _ | refine Below.drew ?_ | refine below_drewN ?_ _)) <;> (first | omega | (simp <;> omega)))⟩
      · have HF : Hid (Dm.div1 m x n y p = Dm.norm q (-p)) := by unfold Hid; rw [HG.out, HD.out]; simp [hm, hn]
        have hn' : decide (n < 0) = false := by simp; omega
        clear HG HD
        go_wp2_with fail
        refine (l1New_any _ _ _ (by omega) (by omega) (by omega) (by omega)).mono ?_
        rintro e w3 ⟨rfl, hb3⟩
        have T3 := (Three.new w m x n y 0 0 25 25 25).below (below_drewN (Below.refl _ _) _) |>.below hb3
        have hB3 := (below_drewN (below3 w (.cells #[.int .i64 m, .int .i64 x] 25) (.cells #[.int .i64 n, .int .i64 y] 25) (.cells #[.int .i64 0, .int .i64 0] 25)) _).trans (hb3.mono (by simp; omega))
        clear hb3
        obtain ⟨-, -, ⟨r0, r1, r2, r3⟩, hz3⟩ := id T3
        go_wp2_with fail
        exact bodyPost_ret (v := .tuple #[.agg #[.int .i64 (Dm.norm (q) (-p)).1, .int .i64 (Dm.norm (q) (-p)).2.1], .bool (Dm.norm (q) (-p)).2.2]) (by simp [results, Try.results43, go_sem, r0, r1]) rfl ⟨by rw [HF.out], (by (repeat' (first | assumption | exact Below.refl _ _ | refine Below.alloc ?_ ?_ _ | refine Below.setCell ?_ ?_ _ | refine Below.drew ?_ | refine below_drewN ?_ _)) <;> (first | omega | (simp <;> omega)))⟩
end Go.Proofs.Ytldlfmehplemiaa
