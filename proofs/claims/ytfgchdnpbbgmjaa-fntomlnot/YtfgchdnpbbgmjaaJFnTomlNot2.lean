/- My own texts, joined: TxtC. -/
import Derived.RangeFuncNested
import Derived.RangeFuncBound
import Derived.RangeFuncCalls
import Derived.RangeFuncLeaves
import Derived.RangeFuncFrom
import Derived.Shelf.Abstract
import Derived.Shelf.RegionOpen
import Derived.WalkKit
import Derived.OwnWalkIn
import Derived.TacticsInMore
import Derived.LoopNIn
import Derived.LoopIn
import Derived.Test.YtfgchdnpbbgmjaaJFnTomlNot1
/- The iterator of the figures. -/
namespace Go.Proofs.Ytfgchdnpbbgmjaa
open Go.RowKit Go.Shelf
attribute [local go_sem] Oper.semAt_some

/-- a round has left the block of the decimal as it was -/
def KpD (Bd : Nat) (W W' : World) : Prop := W.heap.size ≤ W'.heap.size ∧ W'.heap[Bd]? = W.heap[Bd]?
theorem KpD.cell {Bd o : Nat} {W W' : World} (h : KpD Bd W W') : W'.cell? ⟨Bd, o, none⟩ = W.cell? ⟨Bd, o, none⟩ := World.cell?_of_block h.2
abbrev fenc (y : Int × UInt8) : Array Value := #[.int .i64 y.1, .int .u8 y.2.toNat]
theorem grown_of_below {W W' : World} (h : Below W.heap.size W W') : W.grownBy W' none := ⟨h.os, h.tape, h.output, h.size, fun k hk _ => h.block k hk⟩

set_option maxRecDepth 100000 in
set_option maxHeartbeats 2000000 in
/-- the places of a decimal and their figures, for every loop body that keeps the decimal's block -/
theorem figures_stops (n : Nat) (hn : 1 ≤ n) (Bd : Nat) (m x hi lo : Int) (w : World) (hhi : hi = Tm.hi m.natAbs x) (hlo : lo = Tm.lo x) (m1 : -99999999 ≤ m) (m2 : m ≤ 99999999) (x1 : -8 ≤ x) (x2 : x ≤ 8)
    (hBd : Bd < w.heap.size) (c0 : w.cell? ⟨Bd, 0, none⟩ = some (.int .i64 m)) (c1 : w.cell? ⟨Bd, 1, none⟩ = some (.int .i64 x)) :
    SeqStopsK Fence.wide n Try.prog 125 #[.pointer (some ⟨Bd, 0, none⟩)] fenc (KpD Bd) (fun ys => ys = Tm.fl8 m.natAbs x hi (hi - lo + 1).toNat) (fun _ => True) 100 w := fun l J Jx W hW hJ hJx hY h0 => by
  have hcp := Tm.cnt_pos m.natAbs
  have hcl := Tm.cnt_le m.natAbs
  have C0 : W.cell? ⟨Bd, 0, none⟩ = some (.int .i64 m) := (hW.cell (p := ⟨Bd, 0, none⟩) (by show Bd < _; omega)).trans c0
  have C1 : W.cell? ⟨Bd, 1, none⟩ = some (.int .i64 x) := (hW.cell (p := ⟨Bd, 1, none⟩) (by show Bd < _; omega)).trans c1
  have hWz := hW.size
  have hW' := hW
  refine callsIn_of_wp Try.func125 rfl trivial ?_ rfl
  simp only [Try.ntmps125, List.size_toArray, List.length_cons, List.length_nil, Nat.reduceAdd, Nat.reduceSub, Array.replicate_succ, Array.replicate_zero, List.push_toArray, List.append_toArray, List.nil_append, List.cons_append]
  have hmx : Try.prog.follows .mixedOrders = true := by kernel_rfl
  have hd1 : 1 ≤ n := hn
  have hwr : IntKind.i64.wrap (x + (Tm.cnt m.natAbs : Int)) = x + (Tm.cnt m.natAbs : Int) := by rw [IntKind.wrap_i64]; omega
  gi_wp2
  gi_region_with_o (refine ⟨trivial, ?_⟩; gi_at_call 126; refine (callsIn_wide.2 (figureCount_any m _ m1 m2)).mono ?_; rintro e w' ⟨rfl, hw⟩; subst w')
  all_goals gi_wp2
  all_goals
    have hh := hhi
    have hl := hlo
    unfold Tm.hi at hh
    unfold Tm.lo at hl
    have b1 : 0 ≤ hi := by omega
    have b2 : hi ≤ 16 := by omega
    have b3 : -8 ≤ lo := by omega
    have b4 : lo ≤ 0 := by omega
    have b5 : hi - x ≤ 18 := by omega
    have HH : Hid (hi = max (x + (Tm.cnt m.natAbs : Int) - 1) 0) := hh
    have HL : Hid (lo = min x 0) := hl
    clear hh hl hhi hlo hwr hW C0 C1
    have C0 : W.cell? ⟨Bd, 0, none⟩ = some (.int .i64 m) := (hW'.cell (p := ⟨Bd, 0, none⟩) (by show Bd < _; omega)).trans c0
    have C1 : W.cell? ⟨Bd, 1, none⟩ = some (.int .i64 x) := (hW'.cell (p := ⟨Bd, 1, none⟩) (by show Bd < _; omega)).trans c1
    gi_loopw [5] (fun p wr => ∃ k : Nat, p = .int .i64 (hi - k) ∧ (k : Int) ≤ hi - lo + 1 ∧ J (Tm.fl8 m.natAbs x hi k) wr ∧ wr.cell? ⟨Bd, 0, none⟩ = some (.int .i64 m) ∧ wr.cell? ⟨Bd, 1, none⟩ = some (.int .i64 x) ∧ Bd < wr.heap.size) (fun p _ => (intOf p - lo + 1).toNat)
    case atStart =>
      have hD : Below W.heap.size W W.drew := (Below.refl _ W).drew
      have hDz := hD.size
      refine ⟨0, ?_, by omega, hJ _ _ _ none h0 (grown_of_below hD) (fun r e => by cases e), (hD.cell (p := ⟨Bd, 0, none⟩) (by show Bd < _; omega)).trans C0, (hD.cell (p := ⟨Bd, 1, none⟩) (by show Bd < _; omega)).trans C1, by omega⟩
      have := HH.out
      congr 1
      omega
    case round =>
      obtain ⟨k, rfl, hk, hJs, d0, d1, hz⟩ := hrel
      have e1 := HH.out
      have e2 := HL.out
      by_cases hlt : (k : Int) < hi - lo + 1
      · have g' : lo ≤ hi - (k : Int) := by omega
        have hfx : hi - (k : Int) - x ≤ 18 := by omega
        first
          | have g : x ≤ hi - (k : Int) := by omega
          | have g : 0 ≤ hi - (k : Int) := by omega
        clear e1 e2
        have hfig := Tm.fig8_val m.natAbs x (hi - k)
        have hlen : (Tm.fl8 m.natAbs x hi k).length < 100 := by rw [Tm.fl8_len]; omega
        gi_wp2_with (refine ⟨trivial, ?_⟩; gi_at_call 127; refine (callsIn_wide.2 (figureAt_any m x (hi - k) _ m1 m2 x1 x2 (by omega) (by omega) hfx)).mono ?_; rintro e W2 ⟨rfl, hb2⟩; obtain ⟨fn, tmps, assign, body, hy, hR⟩ := hY (Tm.fl8 m.natAbs x hi k) (hi - k, Tm.fig8 m.natAbs x (hi - k)) W2 (hJ _ _ _ none hJs (grown_of_below hb2) (fun r e => by cases e)) hlen; dsimp only [fenc] at hy; rw [hfig] at hy)
        have a0 := (hb2.cell (p := ⟨Bd, 0, none⟩) (by show Bd < _; omega)).trans d0
        have a1 := (hb2.cell (p := ⟨Bd, 1, none⟩) (by show Bd < _; omega)).trans d1
        have hz2 := hb2.size
        refine hR.mono ?_
        rintro e W3 (⟨rfl, hJ3, hk3⟩ | ⟨rfl, hJx3⟩)
        · have t0 := (hk3.cell (o := 0)).trans a0
          have t1 := (hk3.cell (o := 1)).trans a1
          have hz3 := hk3.1
          have HS : Hid (Tm.fl8 m.natAbs x hi (k + 1) = Tm.fl8 m.natAbs x hi k ++ [(hi - k, Tm.fig8 m.natAbs x (hi - k))]) := Tm.fl8_snoc _ _ _ _
          gi_wp2
          go_roundw
          case rel => exact ⟨k + 1, by congr 1; omega, by omega, by rw [HS.out]; exact hJ3, t0, t1, by omega⟩
          case measure => simp [intOf]; omega
        · gi_wp2
          refine bodyPost_ret (results_none rfl _ _ _) rfl ?_
          exact ⟨⟨_, rfl⟩, .inr ⟨_, trivial, hJx3⟩⟩
      · have hkk : (hi - lo + 1).toNat = k := by omega
        have g' : hi - (k : Int) < lo := by omega
        first
          | have g : hi - (k : Int) < x ∧ x ≤ 0 := by omega
          | have g : hi - (k : Int) < 0 ∧ 0 < x := by omega
        obtain ⟨ga, gb⟩ := g
        have HK : Hid ((hi - lo + 1).toNat = k) := hkk
        clear hkk e1 e2
        gi_wp2
        go_end0
        exact ⟨⟨_, rfl⟩, .inl (by rw [HK.out]; exact hJs)⟩
end Go.Proofs.Ytfgchdnpbbgmjaa
