/- Contracts: l1New, stripped, DecNew of both sides. -/
import Derived.Test.YtldlfmehplemiaaDecB
import Derived.Deep.LoopGhost
namespace Go.Proofs.Ytldlfmehplemiaa
open Go.RowKit

/-- the two cells of a decimal that lies in block b, and that they may be written -/
def Two (w : World) (b : Nat) (m e : Int) : Prop :=
  w.cell? ⟨b, 0, none⟩ = some (.int .i64 m) ∧ w.cell? ⟨b, 1, none⟩ = some (.int .i64 e) ∧ w.frozen? ⟨b, 0, none⟩ = false ∧ w.frozen? ⟨b, 1, none⟩ = false
theorem Two.new (w : World) (m e : Int) (T : TypeId) : Two (w.alloc (.cells #[.int .i64 m, .int .i64 e] T)) w.heap.size m e := ⟨by simp, by simp, by simp, by simp⟩
theorem Two.below {w w' : World} {B b : Nat} {m e : Int} (h : Two w b m e) (hb : Below B w w') (hB : b < B) : Two w' b m e :=
  ⟨(hb.cell (p := ⟨b, 0, none⟩) hB).trans h.1, (hb.cell (p := ⟨b, 1, none⟩) hB).trans h.2.1, (hb.frozen (p := ⟨b, 0, none⟩) hB).trans h.2.2.1, (hb.frozen (p := ⟨b, 1, none⟩) hB).trans h.2.2.2⟩
theorem Two.alloc {w : World} {b : Nat} {m e : Int} (h : Two w b m e) (hb : b < w.heap.size) (o : Obj) : Two (w.alloc o) b m e :=
  h.below (((Below.refl w.heap.size w).alloc (Nat.le_refl _) o)) hb
/-- a decimal and a truth, as a call hands them back -/
abbrev dec3 (r : Int × Int × Bool) : Ending := .returned (.tuple #[.agg #[.int .i64 r.1, .int .i64 r.2.1], .bool r.2.2])

set_option maxHeartbeats 400000 in
theorem l1New_any (m x : Int) (w : World) (h1 : -1000000000000000000 ≤ m) (h2 : m ≤ 1000000000000000000) (h3 : -1000 ≤ x) (h4 : x ≤ 1000) :
    Calls Try.prog 56 #[.int .i64 m, .int .i64 x] w fun e w' => e = dec3 (Dm.norm m x) ∧ Below w.heap.size w w' := by
  by_cases h0 : m = 0
  · subst h0
    go_enter Try.func56, Try.ntmps56
    go_wp2_with fail
    exact bodyPost_ret (v := .tuple #[.agg #[.int .i64 0, .int .i64 0], .bool true]) (by simp [results, Try.results56, go_sem]) rfl ⟨rfl, (by (repeat' (first | assumption | exact Below.refl _ _ | refine Below.alloc ?_ ?_ _ | refine Below.setCell ?_ ?_ _ | refine Below.drew ?_ | refine below_drewN ?_ _)) <;> (first | omega | (simp <;> omega)))⟩
  · have hb0 : (m == 0) = false := by simp [h0]
    have S0 := Dm.Strip.start m x h0 h1 h2
    go_enter Try.func56, Try.ntmps56
    go_wp2_with fail
    go_loop [0, 1] (fun a b => ∃ (j : Nat) (m' e' : Int), a = .int .i64 m' ∧ b = .int .i64 e' ∧ Dm.Strip m x j m' e') (fun a _ => (intOf a).natAbs)
    case atStart => exact ⟨0, m, x, rfl, rfl, S0⟩
    case round =>
      obtain ⟨j, m', e', rfl, rfl, S⟩ := hrel
      have hbd := S.bound
      obtain ⟨hj, hm1, hm2⟩ := hbd
      have he := S.2.2.1
      have he1 : e' ≤ 1018 := by omega
      have he2 : -1000 ≤ e' := by omega
      have hne := S.1
      clear he S0
      by_cases hz : m'.tmod 10 = 0
      · have hzb : (m'.tmod 10 == 0) = true := by simp [hz]
        have S1 := S.step hz
        clear hz
        go_wp2_with fail
        go_round
        case rel => exact ⟨j + 1, _, _, rfl, rfl, S1⟩
        case measure => exact Dm.tdiv_lt m' hne
      · have hzb : (m'.tmod 10 == 0) = false := by simp [hz]
        have HZ : Hid (m'.tmod 10 ≠ 0) := hz
        clear hz
        go_wp2_with fail
        refine (sDecOk_any _ _ _).mono ?_
        rintro e w2 ⟨rfl, hb2⟩
        obtain ⟨hc2, hf2⟩ := bcell hb2
        have hz2 := hb2.size
        simp at hz2
        have c0 : w2.cell? ⟨w.heap.size, 0, none⟩ = some (.int .i64 0) := by rw [hc2 _ _ (by simp; omega)]; simp
        have c1 : w2.cell? ⟨w.heap.size, 1, none⟩ = some (.int .i64 0) := by rw [hc2 _ _ (by simp; omega)]; simp
        have hB2 : Below w.heap.size w w2 := Below.trans (by (repeat' (first | assumption | exact Below.refl _ _ | refine Below.alloc ?_ ?_ _ | refine Below.setCell ?_ ?_ _ | refine Below.drew ?_ | refine below_drewN ?_ _)) <;> (first | omega | (simp <;> omega))) (hb2.mono (by simp; omega))
        cases ho : Dm.ok m' e'
        · have hfin := S.norm_no h0 HZ.out ho
          have HF : Hid (Dm.norm m x = (0, 0, false)) := hfin
          clear hfin
          go_wp2_with fail
          exact bodyPost_ret (v := .tuple #[.agg #[.int .i64 0, .int .i64 0], .bool false]) (by simp [results, Try.results56, go_sem, c0, c1]) rfl ⟨by rw [HF.out], (by (repeat' (first | assumption | exact Below.refl _ _ | refine Below.alloc ?_ ?_ _ | refine Below.setCell ?_ ?_ _ | refine Below.drew ?_ | refine below_drewN ?_ _)) <;> (first | omega | (simp <;> omega)))⟩
        · have hfin := S.norm_ok h0 HZ.out ho
          have HF : Hid (Dm.norm m x = (m', e', true)) := hfin
          clear hfin
          go_wp2_with fail
          exact bodyPost_ret (v := .tuple #[.agg #[.int .i64 m', .int .i64 e'], .bool true]) (by simp [results, Try.results56, go_sem, c0, c1]) rfl ⟨by rw [HF.out], (by (repeat' (first | assumption | exact Below.refl _ _ | refine Below.alloc ?_ ?_ _ | refine Below.setCell ?_ ?_ _ | refine Below.drew ?_ | refine below_drewN ?_ _)) <;> (first | omega | (simp <;> omega)))⟩

set_option maxHeartbeats 400000 in
theorem stripped_any (m x : Int) (w : World) (h0 : m ≠ 0) (h1 : -1000000000000000000 ≤ m) (h2 : m ≤ 1000000000000000000) (h3 : -1000 ≤ x) (h4 : x ≤ 1000) :
    Calls Try.prog 60 #[.agg #[.int .i64 m, .int .i64 x]] w fun e w' => e = .returned (.agg #[.int .i64 (Dm.strip 20 m x).1, .int .i64 (Dm.strip 20 m x).2]) ∧ (Dm.strip 20 m x).1.tmod 10 ≠ 0 ∧ Below w.heap.size w w' := by
  have hb0 : (m == 0) = false := by simp [h0]
  have S0 := Dm.Strip.start m x h0 h1 h2
  go_enter Try.func60, Try.ntmps60
  go_wp2_with fail
  go_loopg [] m.natAbs (fun k wr => ∃ (j : Nat) (m' e' : Int), k = m'.natAbs ∧ Dm.Strip m x j m' e' ∧ Two wr w.heap.size m' e' ∧ Two wr (w.heap.size + 1) 0 0 ∧ Below w.heap.size w wr)
  case atStart =>
    refine ⟨0, m, x, rfl, S0, ⟨by simp, by simp, by simp, by simp⟩, ⟨by simp, by simp, by simp, by simp⟩, (by (repeat' (first | assumption | exact Below.refl _ _ | refine Below.alloc ?_ ?_ _ | refine Below.setCell ?_ ?_ _ | refine Below.drew ?_ | refine below_drewN ?_ _)) <;> (first | omega | (simp <;> omega)))⟩
  case round =>
    obtain ⟨j, m', e', hk, S, ⟨c0, c1, f0, f1⟩, ⟨c2, c3, f2, f3⟩, hB⟩ := hrel
    obtain ⟨hj, hm1, hm2⟩ := S.bound
    have he := S.2.2.1
    have he1 : e' ≤ 1018 := by omega
    have he2 : -1000 ≤ e' := by omega
    have hne := S.1
    have HK : Hid (gk = m'.natAbs) := hk
    clear he S0 hk
    by_cases hz : m'.tmod 10 = 0
    · have hzb : (m'.tmod 10 == 0) = true := by simp [hz]
      have S1 := S.step hz
      clear hz
      go_wp2_with fail
      go_roundg (m'.tdiv 10).natAbs
      case measure => rw [HK.out]; exact Dm.tdiv_lt m' hne
      case rel =>
        refine ⟨j + 1, _, _, rfl, S1, ⟨?_, ?_, ?_, ?_⟩, ⟨?_, ?_, ?_, ?_⟩, (by (repeat' (first | assumption | exact Below.refl _ _ | refine Below.alloc ?_ ?_ _ | refine Below.setCell ?_ ?_ _ | refine Below.drew ?_ | refine below_drewN ?_ _)) <;> (first | omega | (simp <;> omega)))⟩
        all_goals simp_all [go_sem]
    · have hzb : (m'.tmod 10 == 0) = false := by simp [hz]
      have HZ : Hid (m'.tmod 10 ≠ 0) := hz
      have HF : Hid (Dm.strip 20 m x = (m', e')) := S.stop hz
      clear hz
      go_wp2_with fail
      exact bodyPost_ret (v := .agg #[.int .i64 m', .int .i64 e']) (by simp [results, Try.results60, go_sem, c2, c3]) rfl ⟨by rw [HF.out], by rw [HF.out]; exact HZ.out, (by (repeat' (first | assumption | exact Below.refl _ _ | refine Below.alloc ?_ ?_ _ | refine Below.setCell ?_ ?_ _ | refine Below.drew ?_ | refine below_drewN ?_ _)) <;> (first | omega | (simp <;> omega)))⟩

set_option maxHeartbeats 400000 in
theorem stripped_zero (x : Int) (w : World) :
    Calls Try.prog 60 #[.agg #[.int .i64 0, .int .i64 x]] w fun e w' => e = .returned (.agg #[.int .i64 0, .int .i64 0]) ∧ Below w.heap.size w w' := by
  go_enter Try.func60, Try.ntmps60
  go_wp2_with fail
  exact bodyPost_ret (v := .agg #[.int .i64 0, .int .i64 0]) (by simp [results, Try.results60, go_sem]) rfl ⟨rfl, (by (repeat' (first | assumption | exact Below.refl _ _ | refine Below.alloc ?_ ?_ _ | refine Below.setCell ?_ ?_ _ | refine Below.drew ?_ | refine below_drewN ?_ _)) <;> (first | omega | (simp <;> omega)))⟩

set_option maxHeartbeats 400000 in
theorem iDecNew_no (m x : Int) (w : World) (h : ¬ ((-100000000000000000 ≤ m ∧ m ≤ 100000000000000000) ∧ (-32 ≤ x ∧ x ≤ 32))) :
    Calls Try.prog 34 #[.int .i64 m, .int .i64 x] w fun e w' => e = dec3 (Dm.new m x) ∧ Below w.heap.size w w' := by
  have hfin : Dm.new m x = (0, 0, false) := by rw [Dm.new, if_neg h]
  rw [hfin]
  clear hfin
  have h' : m < -100000000000000000 ∨ 100000000000000000 < m ∨ ((-100000000000000000 ≤ m ∧ m ≤ 100000000000000000) ∧ decide (-32 ≤ x) = false) ∨ ((-100000000000000000 ≤ m ∧ m ≤ 100000000000000000) ∧ decide (x ≤ 32) = false) := by simp only [decide_eq_false_iff_not]; omega
  clear h
  rcases h' with h | h | ⟨⟨h, hh⟩, h1⟩ | ⟨⟨h, hh⟩, h1⟩
  all_goals
    go_enter Try.func34, Try.ntmps34
    go_wp2_with (go_at_call 50; refine (within_any _ _ _ (by omega) (by omega)).mono ?_; rintro e w' ⟨rfl, rfl⟩)
    exact bodyPost_ret (v := .tuple #[.agg #[.int .i64 0, .int .i64 0], .bool false]) (by simp [results, Try.results34, go_sem]) rfl ⟨rfl, (by (repeat' (first | assumption | exact Below.refl _ _ | refine Below.alloc ?_ ?_ _ | refine Below.setCell ?_ ?_ _ | refine Below.drew ?_ | refine below_drewN ?_ _)) <;> (first | omega | (simp <;> omega)))⟩

set_option maxHeartbeats 400000 in
theorem iDecNew_any (m x : Int) (w : World) :
    Calls Try.prog 34 #[.int .i64 m, .int .i64 x] w fun e w' => e = dec3 (Dm.new m x) ∧ Below w.heap.size w w' := by
  by_cases h : (-100000000000000000 ≤ m ∧ m ≤ 100000000000000000) ∧ (-32 ≤ x ∧ x ≤ 32)
  · have hfin : Dm.new m x = Dm.norm m x := by rw [Dm.new, if_pos h]
    rw [hfin]
    clear hfin
    obtain ⟨⟨hm1, hm2⟩, hx1, hx2⟩ := h
    by_cases h0 : m = 0
    · subst h0
      go_enter Try.func34, Try.ntmps34
      go_wp2_with (go_at_call 50; refine (within_any _ _ _ (by omega) (by omega)).mono ?_; rintro e w' ⟨rfl, rfl⟩)
      refine (stripped_zero _ _).mono ?_
      rintro e w1 ⟨rfl, hb1⟩
      have tw1 := (Two.new w 0 0 25).below hb1 (by simp)
      obtain ⟨c0, c1, f0, f1⟩ := tw1
      have hB1 : Below w.heap.size w w1 := Below.trans (by (repeat' (first | assumption | exact Below.refl _ _ | refine Below.alloc ?_ ?_ _ | refine Below.setCell ?_ ?_ _ | refine Below.drew ?_ | refine below_drewN ?_ _)) <;> (first | omega | (simp <;> omega))) (hb1.mono (by simp))
      go_wp2_with fail
      refine (iDecOk_any _ _ _).mono ?_
      rintro e w2 ⟨rfl, hb2⟩
      obtain ⟨hc2, hf2⟩ := bcell hb2
      have hz1 := hb1.size
      simp at hz1
      have tw2 := ((Two.alloc ⟨c0, c1, f0, f1⟩ (by omega) (Obj.cells #[Value.int IntKind.i64 0, Value.int IntKind.i64 0] 25))).below hb2 (by simp; omega)
      obtain ⟨d0, d1, g0, g1⟩ := tw2
      have hB2 : Below w.heap.size w w2 := Below.trans (by (repeat' (first | assumption | exact Below.refl _ _ | refine Below.alloc ?_ ?_ _ | refine Below.setCell ?_ ?_ _ | refine Below.drew ?_ | refine below_drewN ?_ _)) <;> (first | omega | (simp <;> omega))) (hb2.mono (by simp; omega))
      clear hb1 hb2
      have hok : Dm.ok 0 0 = true := rfl
      go_wp2_with fail
      exact bodyPost_ret (v := .tuple #[.agg #[.int .i64 0, .int .i64 0], .bool true]) (by simp [results, Try.results34, go_sem, d0, d1]) rfl ⟨rfl, (by (repeat' (first | assumption | exact Below.refl _ _ | refine Below.alloc ?_ ?_ _ | refine Below.setCell ?_ ?_ _ | refine Below.drew ?_ | refine below_drewN ?_ _)) <;> (first | omega | (simp <;> omega)))⟩
    · go_enter Try.func34, Try.ntmps34
      go_wp2_with (go_at_call 50; refine (within_any _ _ _ (by omega) (by omega)).mono ?_; rintro e w' ⟨rfl, rfl⟩)
      refine (stripped_any _ _ _ h0 (by omega) (by omega) (by omega) (by omega)).mono ?_
      rintro e w1 ⟨rfl, hz, hb1⟩
      have HN : Hid (Dm.norm m x = if Dm.ok (Dm.strip 20 m x).1 (Dm.strip 20 m x).2 then ((Dm.strip 20 m x).1, (Dm.strip 20 m x).2, true) else (0, 0, false)) := by unfold Hid; rw [Dm.norm, if_neg h0]
      have HZ : Hid ((Dm.strip 20 m x).1.tmod 10 ≠ 0) := hz
      clear hz
      generalize Dm.strip 20 m x = s at *
      have tw1 := (Two.new w 0 0 25).below hb1 (by simp)
      obtain ⟨c0, c1, f0, f1⟩ := tw1
      have hB1 : Below w.heap.size w w1 := Below.trans (by (repeat' (first | assumption | exact Below.refl _ _ | refine Below.alloc ?_ ?_ _ | refine Below.setCell ?_ ?_ _ | refine Below.drew ?_ | refine below_drewN ?_ _)) <;> (first | omega | (simp <;> omega))) (hb1.mono (by simp))
      go_wp2_with fail
      refine (iDecOk_any _ _ _).mono ?_
      rintro e w2 ⟨rfl, hb2⟩
      obtain ⟨hc2, hf2⟩ := bcell hb2
      have hz1 := hb1.size
      simp at hz1
      have tw2 := ((Two.alloc ⟨c0, c1, f0, f1⟩ (by omega) (Obj.cells #[Value.int IntKind.i64 s.1, Value.int IntKind.i64 s.2] 25))).below hb2 (by simp; omega)
      obtain ⟨d0, d1, g0, g1⟩ := tw2
      have hB2 : Below w.heap.size w w2 := Below.trans (by (repeat' (first | assumption | exact Below.refl _ _ | refine Below.alloc ?_ ?_ _ | refine Below.setCell ?_ ?_ _ | refine Below.drew ?_ | refine below_drewN ?_ _)) <;> (first | omega | (simp <;> omega))) (hb2.mono (by simp; omega))
      clear hb1 hb2
      cases ho : Dm.ok s.1 s.2
      · have HF : Hid (Dm.norm m x = (0, 0, false)) := by unfold Hid; rw [HN.out, ho]; rfl
        clear HN
        go_wp2_with fail
        exact bodyPost_ret (v := .tuple #[.agg #[.int .i64 0, .int .i64 0], .bool false]) (by simp [results, Try.results34, go_sem, d0, d1]) rfl ⟨by rw [HF.out], (by (repeat' (first | assumption | exact Below.refl _ _ | refine Below.alloc ?_ ?_ _ | refine Below.setCell ?_ ?_ _ | refine Below.drew ?_ | refine below_drewN ?_ _)) <;> (first | omega | (simp <;> omega)))⟩
      · have HF : Hid (Dm.norm m x = (s.1, s.2, true)) := by unfold Hid; rw [HN.out, ho]; rfl
        clear HN
        go_wp2_with fail
        exact bodyPost_ret (v := .tuple #[.agg #[.int .i64 s.1, .int .i64 s.2], .bool true]) (by simp [results, Try.results34, go_sem, d0, d1]) rfl ⟨by rw [HF.out], (by (repeat' (first | assumption | exact Below.refl _ _ | refine Below.alloc ?_ ?_ _ | refine Below.setCell ?_ ?_ _ | refine Below.drew ?_ | refine below_drewN ?_ _)) <;> (first | omega | (simp <;> omega)))⟩
  · exact iDecNew_no m x w h
end Go.Proofs.Ytldlfmehplemiaa
