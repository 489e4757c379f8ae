/- The law FnExactDecMod walked. -/
import Derived.Test.YtddephmekoiemaaDecK
import Derived.Test.YtddephmekoiemaaHeld
namespace Go.Proofs.Ytddephmekoiemaa
open Go.RowKit
attribute [local go_sem] cell_alloc_is frozen_alloc_is
set_option maxHeartbeats 1000000 in
theorem walk_FnExactDecMod (m x n y : Int) (w : World) (_wm : (Lit.int .i64 m).wf = true) (_wx : (Lit.int .i64 x).wf = true) (_wn : (Lit.int .i64 n).wf = true) (_wy : (Lit.int .i64 y).wf = true) :
    Calls Try.prog 9 #[.agg #[.int .i64 m, .int .i64 x], .agg #[.int .i64 n, .int .i64 y]] w fun e w' => e = .returned (.bool true) ∧ Below w.heap.size w w' := by
  clear _wm _wx _wn _wy
  obtain ⟨W0, hW0⟩ : ∃ W0, W0 = (w.alloc (.cells #[.int .i64 m, .int .i64 x] 23)).alloc (.cells #[.int .i64 n, .int .i64 y] 23) := ⟨_, rfl⟩
  have hlt : W0.heap.size = w.heap.size + 1 + 1 := by subst hW0; simp
  have hB0 : Below w.heap.size w W0 := by subst hW0; exact (by (repeat' (first | assumption | exact Below.refl _ _ | refine Below.alloc ?_ ?_ _ | refine Below.setCell ?_ ?_ _ | refine Below.drew ?_ | refine below_drewN ?_ _)) <;> (first | omega | (simp <;> omega)))
  have hStart : Held W0 w.heap.size (w.heap.size + 1) m x n y W0 := by subst hW0; exact Held.start (by simp) (by simp) (by simp) (by simp)
  have hltb : w.heap.size < W0.heap.size := by omega
  have hltd : w.heap.size + 1 < W0.heap.size := by omega
  have HL : Hid (W0.heap.size = w.heap.size + 1 + 1) := hlt
  clear hlt
  go_enter Try.func9, Try.ntmps9
  go_upto_region 1 with fail
  rw [← hW0]
  clear hW0
  go_cut [5, 6] (fun p0 q0 w' => ∃ k, p0 = .pointer (some ⟨k, 0, none⟩) ∧ q0 = .bool (Dm.mod m x n y).2.2 ∧ w'.cell? ⟨k, 0, none⟩ = some (.int .i64 (Dm.mod m x n y).1) ∧ w'.cell? ⟨k, 1, none⟩ = some (.int .i64 (Dm.mod m x n y).2.1) ∧ Below W0.heap.size W0 w')
  case first =>
    go_region_held3 (fun w' => w'.cell? ⟨w.heap.size, 0, none⟩ = some (.int .i64 m) ∧ w'.cell? ⟨w.heap.size, 1, none⟩ = some (.int .i64 x) ∧ w'.cell? ⟨w.heap.size + 1, 0, none⟩ = some (.int .i64 n) ∧ w'.cell? ⟨w.heap.size + 1, 1, none⟩ = some (.int .i64 y) ∧ Below W0.heap.size W0 w') (first | exact hStart.drew | assumption | exact Held.alloc (by assumption) _ | (refine Held.set (by assumption) hltb hltd ?_ _ _; omega)) (first
      | (go_at_call 14; refine (toDec_any _ _ _).mono ?_; rintro e w1 ⟨rfl, hb1⟩; have hS : Held W0 w.heap.size (w.heap.size + 1) m x n y w1 := Held.below (by assumption) hb1; have hz := hb1.size; obtain ⟨hc, hf⟩ := bsome hb1; have hz2 := hS.2.2.2.2.size; (try simp at hz); (try (have hbb := below_step (by assumption) hb1; obtain ⟨hc', hf'⟩ := bsome hbb)))
      | (go_at_call 27; refine (sDecMod_any _ _ _ _ _).mono ?_; rintro e w1 ⟨rfl, hb1⟩; have hS : Held W0 w.heap.size (w.heap.size + 1) m x n y w1 := Held.below (by assumption) hb1; have hz := hb1.size; obtain ⟨hc, hf⟩ := bsome hb1; have hz2 := hS.2.2.2.2.size; (try simp at hz); (try (have hbb := below_step (by assumption) hb1; obtain ⟨hc', hf'⟩ := bsome hbb))))
    all_goals (go_wp2_with fail; go_meet)
    all_goals refine ⟨_, rfl, rfl, ?_, ?_, (by assumption : Held W0 w.heap.size (w.heap.size + 1) m x n y _).2.2.2.2⟩
    all_goals (first | omega | (go_simp; done) | (simp; done) | (refine (two_set ?_ ?_ _ _).1 <;> go_simp) | (refine (two_set ?_ ?_ _ _).2 <;> go_simp) | (simp; omega))
  case rest =>
    obtain ⟨b, rfl, rfl, c0, c1, hb⟩ := hcut
    have hStart2 : Held wc w.heap.size (w.heap.size + 1) m x n y wc := by
      have := hStart.below hb
      exact Held.start this.1 this.2.1 this.2.2.1 this.2.2.2.1
    have hB1 : Below w.heap.size w wc := hB0.trans (hb.mono (by omega))
    have hszc := hb.size
    clear hStart hb hB0
    rename Held wc w.heap.size (w.heap.size + 1) m x n y wc => hStart
    have hltb2 : w.heap.size < wc.heap.size := by omega
    have hltd2 : w.heap.size + 1 < wc.heap.size := by omega
    clear hltb hltd HL
    rename w.heap.size < wc.heap.size => hltb
    rename w.heap.size + 1 < wc.heap.size => hltd
    clear hszc
    go_upto_region 2 with fail
    obtain ⟨W1, hW1⟩ : ∃ W1, W1 = wc := ⟨_, rfl⟩
    subst hW1
    go_cut [7, 8] (fun p0 q0 w' => ∃ k, p0 = .pointer (some ⟨k, 0, none⟩) ∧ q0 = .bool (Dm.mod m x n y).2.2 ∧ w'.cell? ⟨k, 0, none⟩ = some (.int .i64 (Dm.mod m x n y).1) ∧ w'.cell? ⟨k, 1, none⟩ = some (.int .i64 (Dm.mod m x n y).2.1) ∧ Below W1.heap.size W1 w')
    case first =>
      go_region_held3 (fun w' => w'.cell? ⟨w.heap.size, 0, none⟩ = some (.int .i64 m) ∧ w'.cell? ⟨w.heap.size, 1, none⟩ = some (.int .i64 x) ∧ w'.cell? ⟨w.heap.size + 1, 0, none⟩ = some (.int .i64 n) ∧ w'.cell? ⟨w.heap.size + 1, 1, none⟩ = some (.int .i64 y) ∧ Below W1.heap.size W1 w') (first | exact hStart.drew | assumption | exact Held.alloc (by assumption) _ | (refine Held.set (by assumption) hltb hltd ?_ _ _; omega)) (first
        | (go_at_call 14; refine (toDec_any _ _ _).mono ?_; rintro e w1 ⟨rfl, hb1⟩; have hS : Held W1 w.heap.size (w.heap.size + 1) m x n y w1 := Held.below (by assumption) hb1; have hz := hb1.size; obtain ⟨hc, hf⟩ := bsome hb1; have hz2 := hS.2.2.2.2.size; (try simp at hz); (try (have hbb := below_step (by assumption) hb1; obtain ⟨hc', hf'⟩ := bsome hbb)))
        | (go_at_call 28; refine (iDecMod_any _ _ _ _ _).mono ?_; rintro e w1 ⟨rfl, hb1⟩; have hS : Held W1 w.heap.size (w.heap.size + 1) m x n y w1 := Held.below (by assumption) hb1; have hz := hb1.size; obtain ⟨hc, hf⟩ := bsome hb1; have hz2 := hS.2.2.2.2.size; (try simp at hz); (try (have hbb := below_step (by assumption) hb1; obtain ⟨hc', hf'⟩ := bsome hbb))))
      all_goals (go_wp2_with fail; go_meet)
      all_goals refine ⟨_, rfl, rfl, ?_, ?_, (by assumption : Held W1 w.heap.size (w.heap.size + 1) m x n y _).2.2.2.2⟩
      all_goals (first | omega | (go_simp; done) | (simp; done) | (refine (two_set ?_ ?_ _ _).1 <;> go_simp) | (refine (two_set ?_ ?_ _ _).2 <;> go_simp) | (simp; omega))
    case rest =>
      obtain ⟨d, rfl, rfl, d0, d1, hb2⟩ := hcut
      have e0 := (bsome hb2).1 _ _ (Option.isSome_of_eq_some c0)
      have e1 := (bsome hb2).1 _ _ (Option.isSome_of_eq_some c1)
      rw [c0] at e0
      rw [c1] at e1
      have hB2 : Below w.heap.size w wc := hB1.trans (hb2.mono (by omega))
      clear hStart hb2 c0 c1 hB1
      go_wp2_with fail
      refine (eqDec_any _ _ _ _ _).mono ?_
      rintro e w3 ⟨rfl, hb3⟩
      have hB3 : Below w.heap.size w w3 := hB2.trans (hb3.mono (by have := hB2.size; omega))
      clear hb3 hB2
      go_wp2_with fail
      go_ret
      exact ⟨rfl, hB3⟩
end Go.Proofs.Ytddephmekoiemaa
