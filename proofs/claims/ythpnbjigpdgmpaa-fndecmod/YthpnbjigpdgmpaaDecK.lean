/- Contracts: DecMod of both sides. -/
import Derived.Test.YthpnbjigpdgmpaaDecJ
import Derived.Test.YthpnbjigpdgmpaaDm3
namespace Go.Proofs.Ythpnbjigpdgmpaa
open Go.RowKit
attribute [local go_sem] cell_alloc_is frozen_alloc_is

theorem Three.alloc {w : World} {b : Nat} {m x n y p q : Int} (h : Three w b m x n y p q) (o : Obj) : Three (w.alloc o) b m x n y p q :=
  h.below ((Below.refl _ _).alloc (Nat.le_refl _) o)

set_option maxHeartbeats 1000000 in
theorem iDecMod_any (m x n y : Int) (w : World) :
    Calls Try.prog 32 #[.agg #[.int .i64 m, .int .i64 x], .agg #[.int .i64 n, .int .i64 y]] w fun e w' => e = dec3 (Dm.mod m x n y) ∧ Below w.heap.size w w' := by
  have HM : Hid (Dm.mod m x n y = if (Dm.div m x n y 0).2.2 = true then if (Dm.mul n y (Dm.div m x n y 0).1 (Dm.div m x n y 0).2.1).2.2 = true then Dm.sub m x (Dm.mul n y (Dm.div m x n y 0).1 (Dm.div m x n y 0).2.1).1 (Dm.mul n y (Dm.div m x n y 0).1 (Dm.div m x n y 0).2.1).2.1 else (0, 0, false) else (0, 0, false)) := by unfold Hid; rw [Dm.mod]
  go_enter Try.func32, Try.ntmps32
  go_wp2_with fail
  refine (iDecDiv_any _ _ _ _ _ _).mono ?_
  rintro e w1 ⟨rfl, hb1⟩
  have T1 := (Three.new w m x n y 0 0 _ _ _).below hb1
  have hB1 := (below3 w _ _ _).trans (hb1.mono (by simp; omega))
  clear hb1
  obtain ⟨⟨a0, a1, a2, a3⟩, ⟨b0, b1, b2, b3⟩, ⟨r0, r1, r2, r3⟩, hz⟩ := id T1
  generalize Dm.div m x n y 0 = Q at *
  obtain ⟨qm, qx, qb⟩ := Q
  cases qb
  · have HF : Hid (Dm.mod m x n y = (0, 0, false)) := by unfold Hid; rw [HM.out]; simp
    clear HM
    go_wp2_with fail
    exact bodyPost_ret (v := .tuple #[.agg #[.int .i64 0, .int .i64 0], .bool false]) (by simp (maxDischargeDepth := 6) [results, Try.results32, go_sem, r0, r1]) rfl ⟨by rw [HF.out], (by (repeat' (first | assumption | exact Below.refl _ _ | refine Below.alloc ?_ ?_ _ | refine Below.setCell ?_ ?_ _ | refine Below.drew ?_ | refine below_drewN ?_ _)) <;> (first | omega | (simp <;> omega)))⟩
  · have HM2 : Hid (Dm.mod m x n y = if (Dm.mul n y qm qx).2.2 = true then Dm.sub m x (Dm.mul n y qm qx).1 (Dm.mul n y qm qx).2.1 else (0, 0, false)) := by unfold Hid; rw [HM.out, if_pos rfl]
    clear HM
    go_wp2_with fail
    refine (iDecMul_any _ _ _ _ _).mono ?_
    rintro e w2 ⟨rfl, hb2⟩
    have T2 := (T1.alloc _).below hb2
    have hB2 := (hB1.alloc (by omega) _).trans (hb2.mono (by simp; omega))
    clear hb2 hB1 T1 a0 a1 a2 a3 b0 b1 b2 b3 r0 r1 r2 r3
    obtain ⟨⟨a0, a1, a2, a3⟩, ⟨b0, b1, b2, b3⟩, ⟨r0, r1, r2, r3⟩, hz2⟩ := id T2
    have HR := hideIt (Dm.mul_i64 n y qm qx)
    generalize Dm.mul n y qm qx = R at *
    obtain ⟨tm, tx, tb⟩ := R
    cases tb
    · have HF : Hid (Dm.mod m x n y = (0, 0, false)) := by unfold Hid; rw [HM2.out]; simp
      clear HM2
      go_wp2_with fail
      exact bodyPost_ret (v := .tuple #[.agg #[.int .i64 0, .int .i64 0], .bool false]) (by simp (maxDischargeDepth := 6) [results, Try.results32, go_sem, r0, r1]) rfl ⟨by rw [HF.out], (by (repeat' (first | assumption | exact Below.refl _ _ | refine Below.alloc ?_ ?_ _ | refine Below.setCell ?_ ?_ _ | refine Below.drew ?_ | refine below_drewN ?_ _)) <;> (first | omega | (simp <;> omega)))⟩
    · have HF : Hid (Dm.mod m x n y = Dm.sub m x tm tx) := by unfold Hid; rw [HM2.out, if_pos rfl]
      obtain ⟨k1, k2⟩ := HR.out
      simp only at k1 k2
      clear HM2 HR
      go_wp2_with fail
      refine (iDecSub_any _ _ _ _ _ (by omega) (by omega)).mono ?_
      rintro e w3 ⟨rfl, hb3⟩
      have T3 := (T2.alloc _).below hb3
      have hB3 := (hB2.alloc (by omega) _).trans (hb3.mono (by simp; omega))
      clear hb3 hB2 T2 a0 a1 a2 a3 b0 b1 b2 b3 r0 r1 r2 r3
      obtain ⟨-, -, ⟨r0, r1, r2, r3⟩, hz3⟩ := id T3
      go_wp2_with fail
      exact bodyPost_ret (v := .tuple #[.agg #[.int .i64 (Dm.sub m x tm tx).1, .int .i64 (Dm.sub m x tm tx).2.1], .bool (Dm.sub m x tm tx).2.2]) (by simp (maxDischargeDepth := 6) [results, Try.results32, go_sem, r0, r1]) rfl ⟨by rw [HF.out], (by (repeat' (first | assumption | exact Below.refl _ _ | refine Below.alloc ?_ ?_ _ | refine Below.setCell ?_ ?_ _ | refine Below.drew ?_ | refine below_drewN ?_ _)) <;> (first | omega | (simp <;> omega)))⟩

theorem HeldK.set2 {k : Nat} {W0 W : World} {b d : Nat} {m x n y : Int} (h : HeldK k W0 b d m x n y W) {j : Nat} (hb : b ≠ j) (hd : d ≠ j) (hk : k ≤ j) (u v : Value) : HeldK k W0 b d m x n y ((W.setCell ⟨j, 0, none⟩ u).setCell ⟨j, 1, none⟩ v) := by
  have q : Below k W ((W.setCell ⟨j, 0, none⟩ u).setCell ⟨j, 1, none⟩ v) := ((Below.refl _ W).setCell (p := ⟨j, 0, none⟩) hk u).setCell (p := ⟨j, 1, none⟩) hk v
  have far : ∀ b' o, b' ≠ j → ((W.setCell ⟨j, 0, none⟩ u).setCell ⟨j, 1, none⟩ v).cell? ⟨b', o, none⟩ = W.cell? ⟨b', o, none⟩ := fun b' o hn =>
    (World.cell?_setCell_far _ _ _ _ (fun e => hn e.symm)).trans (World.cell?_setCell_far _ _ _ _ (fun e => hn e.symm))
  obtain ⟨h1, h2, h3, h4, h5, h6⟩ := h
  have := q.size
  exact ⟨(far _ _ hb).trans h1, (far _ _ hb).trans h2, (far _ _ hd).trans h3, (far _ _ hd).trans h4, by omega, h6.trans q⟩

set_option maxHeartbeats 1000000 in
theorem sDecMod_any (m x n y : Int) (w : World) :
    Calls Try.prog 33 #[.agg #[.int .i64 m, .int .i64 x], .agg #[.int .i64 n, .int .i64 y]] w fun e w' => e = dec3 (Dm.mod m x n y) ∧ Below w.heap.size w w' := by
  go_enter Try.func33, Try.ntmps33
  go_wp2_with fail
  refine (sDecOk_any _ _ _).mono ?_
  rintro e w1 ⟨rfl, hb1⟩
  have T1 := (Three.new w m x n y 0 0 _ _ _).below hb1
  have hB1 := (below3 w _ _ _).trans (hb1.mono (by simp; omega))
  clear hb1
  obtain ⟨⟨a0, a1, a2, a3⟩, ⟨b0, b1, b2, b3⟩, ⟨r0, r1, r2, r3⟩, hz⟩ := id T1
  cases ho : Dm.ok m x
  · have HF : Hid (Dm.mod m x n y = (0, 0, false)) := by unfold Hid; exact Dm.mod_no (by simp [ho])
    go_wp2_with fail
    exact bodyPost_ret (v := .tuple #[.agg #[.int .i64 0, .int .i64 0], .bool false]) (by simp (maxDischargeDepth := 6) [results, Try.results33, go_sem, r0, r1]) rfl ⟨by rw [HF.out], (by (repeat' (first | assumption | exact Below.refl _ _ | refine Below.alloc ?_ ?_ _ | refine Below.setCell ?_ ?_ _ | refine Below.drew ?_ | refine below_drewN ?_ _)) <;> (first | omega | (simp <;> omega)))⟩
  · go_wp2_with fail
    refine (sDecOk_any _ _ _).mono ?_
    rintro e w2 ⟨rfl, hb2⟩
    have T2 := T1.below hb2
    have hB2 := hB1.trans (hb2.mono (by omega))
    clear hb2 hB1 T1 a0 a1 a2 a3 b0 b1 b2 b3 r0 r1 r2 r3
    obtain ⟨⟨a0, a1, a2, a3⟩, ⟨b0, b1, b2, b3⟩, ⟨r0, r1, r2, r3⟩, hz2⟩ := id T2
    cases hp : Dm.ok n y
    · have HF : Hid (Dm.mod m x n y = (0, 0, false)) := by unfold Hid; exact Dm.mod_no (by simp [hp])
      go_wp2_with fail
      exact bodyPost_ret (v := .tuple #[.agg #[.int .i64 0, .int .i64 0], .bool false]) (by simp (maxDischargeDepth := 6) [results, Try.results33, go_sem, r0, r1]) rfl ⟨by rw [HF.out], (by (repeat' (first | assumption | exact Below.refl _ _ | refine Below.alloc ?_ ?_ _ | refine Below.setCell ?_ ?_ _ | refine Below.drew ?_ | refine below_drewN ?_ _)) <;> (first | omega | (simp <;> omega)))⟩
    · by_cases hn0 : n = 0
      · have HF : Hid (Dm.mod m x n y = (0, 0, false)) := by unfold Hid; exact Dm.mod_no (by simp [hn0])
        have hnz : (n == 0) = true := by simp [hn0]
        clear hn0
        go_wp2_with fail
        exact bodyPost_ret (v := .tuple #[.agg #[.int .i64 0, .int .i64 0], .bool false]) (by simp (maxDischargeDepth := 6) [results, Try.results33, go_sem, r0, r1]) rfl ⟨by rw [HF.out], (by (repeat' (first | assumption | exact Below.refl _ _ | refine Below.alloc ?_ ?_ _ | refine Below.setCell ?_ ?_ _ | refine Below.drew ?_ | refine below_drewN ?_ _)) <;> (first | omega | (simp <;> omega)))⟩
      · have hnz : (n == 0) = false := by simp [hn0]
        have HN1 := hideIt (Dm.mod_no1 ho hp hn0)
        have HN2 := hideIt (Dm.mod_no2 ho hp hn0)
        have HY := hideIt (Dm.mod_yes ho hp hn0)
        have HO := hideIt (@Dm.div1_ok m x n y 0)
        go_wp2_with fail
        refine (l1Div_any _ _ _ _ _ _ ho hp hn0 (by omega) (by omega)).mono ?_
        rintro e w3 ⟨rfl, hb3⟩
        have T3 := T2.below hb3
        have hB3 := hB2.trans (hb3.mono (by omega))
        clear hb3 hB2 T2 a0 a1 a2 a3 b0 b1 b2 b3 r0 r1 r2 r3
        obtain ⟨⟨a0, a1, a2, a3⟩, ⟨b0, b1, b2, b3⟩, ⟨r0, r1, r2, r3⟩, hz3⟩ := id T3
        generalize Dm.div1 m x n y 0 = Q at *
        obtain ⟨qm, qx, qb⟩ := Q
        cases qb
        · have HF : Hid (Dm.mod m x n y = (0, 0, false)) := HN1.out rfl
          clear HN1 HN2 HY HO
          go_wp2_with fail
          exact bodyPost_ret (v := .tuple #[.agg #[.int .i64 0, .int .i64 0], .bool false]) (by simp (maxDischargeDepth := 6) [results, Try.results33, go_sem, r0, r1]) rfl ⟨by rw [HF.out], (by (repeat' (first | assumption | exact Below.refl _ _ | refine Below.alloc ?_ ?_ _ | refine Below.setCell ?_ ?_ _ | refine Below.drew ?_ | refine below_drewN ?_ _)) <;> (first | omega | (simp <;> omega)))⟩
        · have hqo := Dm.ok_bd (HO.out rfl)
          simp only at hqo
          obtain ⟨q1, q2, q3, q4⟩ := hqo
          obtain ⟨n1, n2, y1, y2⟩ := Dm.ok_bd hp
          have hmn := Dm.mul_bd (m := qm) (n := n) 99999999 99999999 (by omega) (by omega) (by omega) n1 n2
          obtain ⟨hmn1, hmn2⟩ := hmn
          have HNO := hideIt (@Dm.norm_ok (qm * n) (qx + y))
          have hN2 := HN2.out rfl
          have hY := HY.out rfl
          have HN2' := hideIt hN2
          have HY' := hideIt hY
          clear HN1 HN2 HY HO hN2 hY
          go_wp2_with fail
          refine (l1New_any _ _ _ (by omega) (by omega) (by omega) (by omega)).mono ?_
          rintro e w4 ⟨rfl, hb4⟩
          have T4 := (T3.alloc _).below hb4
          have hB4 := (hB3.alloc (by omega) _).trans (hb4.mono (by simp; omega))
          clear hb4 hB3 T3 a0 a1 a2 a3 b0 b1 b2 b3 r0 r1 r2 r3
          obtain ⟨⟨a0, a1, a2, a3⟩, ⟨b0, b1, b2, b3⟩, ⟨r0, r1, r2, r3⟩, hz4⟩ := id T4
          generalize Dm.norm (qm * n) (qx + y) = R at *
          obtain ⟨tm, tx, tb⟩ := R
          cases tb
          · have HF : Hid (Dm.mod m x n y = (0, 0, false)) := HN2'.out rfl
            clear HN2' HY' HNO
            go_wp2_with fail
            exact bodyPost_ret (v := .tuple #[.agg #[.int .i64 0, .int .i64 0], .bool false]) (by simp (maxDischargeDepth := 6) [results, Try.results33, go_sem, r0, r1]) rfl ⟨by rw [HF.out], (by (repeat' (first | assumption | exact Below.refl _ _ | refine Below.alloc ?_ ?_ _ | refine Below.setCell ?_ ?_ _ | refine Below.drew ?_ | refine below_drewN ?_ _)) <;> (first | omega | (simp <;> omega)))⟩
          · have HF : Hid (Dm.mod m x n y = Dm.add1 m x (-tm) tx) := HY'.out rfl
            have hto := HNO.out rfl
            simp only at hto
            have hq : Dm.ok (-tm) tx = true := by rw [Dm.ok_neg]; exact hto
            obtain ⟨t1, t2, t3, t4⟩ := Dm.ok_bd hto
            clear HN2' HY' HNO hto
            obtain ⟨W0, hW0⟩ : ∃ W0, W0 = w4.alloc (.cells #[.int .i64 tm, .int .i64 tx] 26) := ⟨_, rfl⟩
            have T5 : Three W0 w.heap.size m x n y 0 0 := by subst hW0; exact T4.alloc _
            have hB0 : Below w.heap.size w W0 := by subst hW0; exact hB4.alloc (by omega) _
            have tw : Two W0 w4.heap.size tm tx := by subst hW0; exact Two.new _ _ _ _
            have hsz : W0.heap.size = w4.heap.size + 1 := by subst hW0; simp
            have hsz2 : w.heap.size + 2 ≤ W0.heap.size := by omega
            clear hsz T4 hB4 a0 a1 a2 a3 b0 b1 b2 b3 r0 r1 r2 r3
            obtain ⟨⟨a0, a1, a2, a3⟩, -, ⟨r0, r1, r2, r3⟩, hz5⟩ := T5
            obtain ⟨v0, v1, v2, v3⟩ := tw
            have hStart : HeldK (w.heap.size + 2) W0 w.heap.size w4.heap.size m x tm tx W0 := HeldK.start a0 a1 v0 v1 hsz2
            go_wp2_with fail
            rw [← hW0]
            clear hW0
            go_region_held3 (fun w' => w'.cell? ⟨w.heap.size, 0, none⟩ = some (.int .i64 m) ∧ w'.cell? ⟨w.heap.size, 1, none⟩ = some (.int .i64 x) ∧ w'.cell? ⟨w4.heap.size, 0, none⟩ = some (.int .i64 tm) ∧ w'.cell? ⟨w4.heap.size, 1, none⟩ = some (.int .i64 tx) ∧ w.heap.size + 2 ≤ w'.heap.size ∧ Below (w.heap.size + 2) W0 w') (first | exact hStart.drew | assumption | (refine HeldK.set2 (by assumption) ?_ ?_ ?_ _ _ <;> omega)) (first
              | (go_at_call 48; refine (l1Neg_any _ _ _ (by omega) (by omega)).mono ?_; rintro e w1 ⟨rfl, hb1⟩; have hS : HeldK (w.heap.size + 2) W0 w.heap.size w4.heap.size m x tm tx w1 := HeldK.below (by assumption) hb1; have hz := hb1.size; obtain ⟨hc, hf⟩ := bsome hb1; (try simp at hz); (try (have hbb := below_step (by assumption) hb1; obtain ⟨hc', hf'⟩ := bsome hbb)))
              | (go_at_call 46; refine (l1Add_any _ _ _ _ _ ho hq).mono ?_; rintro e w1 ⟨rfl, hb1⟩; have hS : HeldK (w.heap.size + 2) W0 w.heap.size w4.heap.size m x tm tx w1 := HeldK.below (by assumption) hb1; have hz := hb1.size; obtain ⟨hc, hf⟩ := bsome hb1; (try simp at hz); (try (have hbb := below_step (by assumption) hb1; obtain ⟨hc', hf'⟩ := bsome hbb))))
            go_wp2_with fail
            exact bodyPost_ret (v := .tuple #[.agg #[.int .i64 (Dm.add1 m x (-tm) tx).1, .int .i64 (Dm.add1 m x (-tm) tx).2.1], .bool (Dm.add1 m x (-tm) tx).2.2]) (by simp (maxDischargeDepth := 6) [results, Try.results33, go_sem, *]) rfl ⟨by rw [HF.out], hB0.trans ((by assumption : HeldK (w.heap.size + 2) W0 w.heap.size w4.heap.size m x tm tx _).2.2.2.2.2.mono (by omega))⟩
end Go.Proofs.Ythpnbjigpdgmpaa
