/- All lists in a tree, by the program: the region that counts a list; sums up to the greatest number. -/
import Derived.Test.YtapdlnakbpociaaZc
import Derived.Test.YtapdlnakbpociaaSh
import Derived.Deep.RegionHeld3
namespace Go.Proofs.Ytapdlnakbpociaa
open Go.RowKit
theorem stamp_isP {w : World} {b : Nat} {x : Pl} {s : Nat} {L : List (Pl × Value)} (h : plKeys.Stamp w b x s L) : plKeys.Is w b L := by
  obtain ⟨es, clock, n, e, h1, h2, _⟩ := h
  exact ⟨es, clock, h1, h2⟩
theorem has_lt {w : World} {b : Nat} {L : List (Pl × Value)} (h : plKeys.Has w b L) : b < w.heap.size := by
  obtain ⟨es, clock, h, _⟩ := h
  exact (Array.getElem?_eq_some_iff.1 h).1
theorem has_below {w w' : World} {b : Nat} {L : List (Pl × Value)} (h : plKeys.Has w b L) (hb : Below w.heap.size w w') : plKeys.Has w' b L := h.same _ (hb.block _ (has_lt h))
theorem PlOk.grownH {w w' : World} {p : Pl} {mb : Nat} {L : List (Pl × Value)} (h : PlOk w p) (hg : w.grownBy w' (some mb)) (hm : plKeys.Has w mb L) : PlOk w' p := by
  obtain ⟨es, clock, hh, _⟩ := hm
  exact h.grown hg hh
/-- the sum of two, or the greatest number -/
def upTo2 (x y : Nat) : Nat := if 9223372036854775807 < x + y then 9223372036854775807 else x + y
theorem sumUpTo_any (x y : Nat) (w : World) (hy : y ≤ 9223372036854775807) :
    Calls Try.prog 50 #[.int .i64 x, .int .i64 y] w fun e w' => e = .returned (.int .i64 (upTo2 x y : Nat)) ∧ Below w.heap.size w w' := by
  go_enter Try.func50, Try.ntmps50
  have hw : IntKind.i64.wrap (9223372036854775807 - (y : Int)) = 9223372036854775807 - (y : Int) := by rw [IntKind.wrap_i64]; omega
  by_cases h : 9223372036854775807 < x + y
  · have hlt : decide ((9223372036854775807 - (y : Int)) < (x : Int)) = true := by simp; omega
    have e : upTo2 x y = 9223372036854775807 := if_pos h
    rw [e]
    go_wp2_with fail
    go_ret
    exact ⟨rfl, Below.refl _ _⟩
  · have hlt : decide ((9223372036854775807 - (y : Int)) < (x : Int)) = false := by simp; omega
    have e : upTo2 x y = x + y := if_neg h
    rw [e]
    have hw2 : IntKind.i64.wrap ((x : Int) + (y : Int)) = (x : Int) + (y : Int) := by rw [IntKind.wrap_i64]; omega
    go_wp2_with fail
    go_ret
    exact ⟨rfl, Below.refl _ _⟩
set_option maxRecDepth 100000 in
set_option maxHeartbeats 1000000 in
theorem ls4 {Q : Exit → Act → World → Prop} {t0 t1 t2 t4 t6 t7 t8 t9 t10 t11 t12 t13 t14 t15 t16 t17 t18 t19 t20 t21 t22 t23 t24 t25 t26 t27 t28 t29 t30 t31 t32 t33 t34 t35 t36 t37 t38 t39 t40 t41 t42 t43 t44 t45 t46 t47 t48 t49 t50 t51 t52 : Value} {W : World} {mb m c : Nat} {a : Option Addr} {L : List (Pl × Value)} {n0 : Nat}
    (hm : plKeys.Has W mb L) (hok : PlOk W (plOf a m)) (hoks : ∀ q ∈ L, PlOk W q.1) (hg0 : (getL (plOf a m) L).getD (.int .i64 0) = .int .i64 n0) (hn0 : n0 ≤ 100000000) (ha : m = 0 ∨ ∃ b o, a = some ⟨b, o, none⟩) (hml : m ≤ 2000000)
    (hp : ∀ p d v a w, Q (.panic p) (Act.put a d v) w → Q (.panic p) a w) (h : ∀ ws v20 v21 v22 v23 v24 v25 v26, plKeys.Has ws mb (putL (plOf a m) (.int .i64 ((n0 : Int) + 1)) L) → W.grownBy ws (some mb) → Q .normal { tmps := (t0 :: t1 :: t2 :: (.map (some mb)) :: t4 :: (.slice a m c) :: t6 :: t7 :: t8 :: t9 :: t10 :: t11 :: t12 :: t13 :: t14 :: t15 :: t16 :: t17 :: t18 :: t19 :: v20 :: v21 :: v22 :: v23 :: v24 :: v25 :: v26 :: t27 :: t28 :: t29 :: t30 :: t31 :: t32 :: t33 :: t34 :: t35 :: t36 :: t37 :: t38 :: t39 :: t40 :: t41 :: t42 :: t43 :: t44 :: t45 :: t46 :: t47 :: t48 :: t49 :: t50 :: t51 :: t52 :: []).toArray, defers := [] } ws) :
    Code.wp Try.prog (Code.region 4 #[{ dst := some 20, op := Op.move (Operand.tmp 3), type := 113, pos := "l3_tree.go:327", after := #[], guard := none }, { dst := some 21, op := Op.move (Operand.tmp 5), type := 30, pos := "l3_tree.go:327", after := #[], guard := none }, { dst := some 22, op := Op.call { callee := Callee.value (Operand.func 49), args := #[Operand.tmp 21], argTypes := #[30] }, type := 80, pos := "l3_tree.go:327", after := #[{ on := 1, ground := Ground.data }], guard := none }, { dst := some 23, op := Op.lookup 113 (Operand.tmp 20) (Operand.tmp 22) false, type := 3, pos := "l3_tree.go:327", after := #[{ on := 0, ground := Ground.data }, { on := 2, ground := Ground.data }], guard := none }, { dst := some 24, op := Op.binOp BinOp.add 3 (Operand.tmp 23) (Operand.const (Value.int IntKind.i64 1)) 3, type := 3, pos := "l3_tree.go:327", after := #[{ on := 3, ground := Ground.data }], guard := none }, { dst := some 25, op := Op.mapEntry 113 (Operand.tmp 20) (Operand.tmp 22), type := 0, pos := "l3_tree.go:327", after := #[{ on := 0, ground := Ground.data }, { on := 2, ground := Ground.data }, { on := 2, ground := Ground.chain }, { on := 0, ground := Ground.phase }, { on := 1, ground := Ground.phase }, { on := 2, ground := Ground.phase }, { on := 3, ground := Ground.textOnly Departure.mapOpAssignEntry }, { on := 4, ground := Ground.textOnly Departure.mapOpAssignEntry }], guard := none }, { dst := some 26, op := Op.extract (Operand.tmp 25) 1, type := 3, pos := "l3_tree.go:327", after := #[{ on := 5, ground := Ground.data }], guard := none }, { dst := none, op := Op.entryStore 113 (Operand.tmp 20) (Operand.tmp 26) (Operand.tmp 24), type := 0, pos := "l3_tree.go:327", after := #[{ on := 0, ground := Ground.data }, { on := 6, ground := Ground.data }, { on := 4, ground := Ground.data }, { on := 5, ground := Ground.chain }, { on := 0, ground := Ground.phase }, { on := 1, ground := Ground.phase }, { on := 2, ground := Ground.phase }, { on := 3, ground := Ground.phase }, { on := 4, ground := Ground.phase }, { on := 5, ground := Ground.phase }, { on := 6, ground := Ground.phase }], guard := none }] true) Q { tmps := (t0 :: t1 :: t2 :: (.map (some mb)) :: t4 :: (.slice a m c) :: t6 :: t7 :: t8 :: t9 :: t10 :: t11 :: t12 :: t13 :: t14 :: t15 :: t16 :: t17 :: t18 :: t19 :: t20 :: t21 :: t22 :: t23 :: t24 :: t25 :: t26 :: t27 :: t28 :: t29 :: t30 :: t31 :: t32 :: t33 :: t34 :: t35 :: t36 :: t37 :: t38 :: t39 :: t40 :: t41 :: t42 :: t43 :: t44 :: t45 :: t46 :: t47 :: t48 :: t49 :: t50 :: t51 :: t52 :: []).toArray, defers := [] } W := by
  have hz : ∀ w, (zeroValue 3).run Try.prog w = .ok (.int .i64 0) w := fun w => by kernel_rfl
  refine wp_region_held_drew (S := fun _ => True) (by kernel_rfl) trivial (fun hHeld => ?_)
  have hB0 := (Below.refl W.heap.size W).drew
  refine wpAnyH_take (i := 0) (v := .map (some mb)) rfl (by kernel_rfl) (by kernel_rfl) (by kernel_rfl) (fun _ _ _ h => hp _ _ _ _ _ h) (Or.inl ⟨by rfl, ?_⟩) (by trivial) ?_
  · intro w hSw
    go_simp
  (try simp only [Act.put, List.getElem_toArray, List.getElem_cons_zero, List.setIfInBounds_toArray, List.set_cons_zero, List.set_cons_succ])
  refine wpAnyH_take (i := 1) (v := .slice a m c) rfl (by kernel_rfl) (by kernel_rfl) (by kernel_rfl) (fun _ _ _ h => hp _ _ _ _ _ h) (Or.inl ⟨by rfl, ?_⟩) (by trivial) ?_
  · intro w hSw
    go_simp
  (try simp only [Act.put, List.getElem_toArray, List.getElem_cons_zero, List.getElem_cons_succ, List.setIfInBounds_toArray, List.set_cons_zero, List.set_cons_succ])
  refine wpAnyH_ready (rs := [2]) (by kernel_rfl) (by simp) ?_
  refine AllReadyH.cons rfl (fun K hK => ?_) AllReadyH.nil
  go_simp
  refine (placeOf_any a m c _ ha hml).mono ?_
  rintro r W9 ⟨rfl, hb1⟩
  have hB9 := hB0.trans (hb1.mono hB0.size)
  have hmD : plKeys.Has W9 mb L := has_below hm hB9
  have hokD : PlOk W9 (plOf a m) := hok.below hB9
  have hoksD : ∀ q ∈ L, PlOk W9 q.1 := fun q hq => (hoks q hq).below hB9
  have hg9 : W.grownBy W9 (some mb) := ⟨hB9.os, hB9.tape, hB9.output, hB9.size, fun k hk _ => hB9.block k hk⟩
  clear hm hok hoks hB9 hb1 hB0
  have hl0 := plKeys.look (mty := 113) (et := 3) Try.underlying113 (plOf a m) hokD hoksD hmD.is (hz W9)
  rw [hg0] at hl0
  have hlook : (Instr.lookup 113 (.map (some mb)) (.agg #[.pointer (plOf a m).1, .int .i64 (plOf a m).2]) false).run Try.prog W9 = .ok (.int .i64 n0) W9 := hl0
  obtain ⟨wm, st, hent0, hstp, hgr, hszm⟩ := plKeys.entry (mty := 113) (et := 3) Try.underlying113 (plOf a m) hokD hoksD hmD (z := .int .i64 0) (hz _)
  rw [hg0] at hent0 hstp
  have hent : (Instr.mapEntry 113 (.map (some mb)) (.agg #[.pointer (plOf a m).1, .int .i64 (plOf a m).2])).run Try.prog W9 = .ok (.tuple #[.int .i64 n0, .int .i64 (st : Nat)]) wm := hent0
  have hkm : PlOk wm (plOf a m) := hokD.grownH hgr hmD
  have hksm : ∀ q ∈ putL (plOf a m) (.int .i64 n0) L, PlOk wm q.1 := fun q hq => by
    rcases putL_keys (plOf a m) _ L q hq with e | hq
    · rw [e]; exact hkm
    · exact (hoksD q hq).grownH hgr hmD
  have hk0 := plKeys.look (mty := 113) (et := 3) Try.underlying113 (plOf a m) hkm hksm (stamp_isP hstp) (hz wm)
  rw [getL_put, if_pos rfl] at hk0
  have hlookm : (Instr.lookup 113 (.map (some mb)) (.agg #[.pointer (plOf a m).1, .int .i64 (plOf a m).2]) false).run Try.prog wm = .ok (.int .i64 n0) wm := hk0
  obtain ⟨ws, hsto, hmS, hgrs, hszs⟩ := plKeys.store (mty := 113) hstp (.int .i64 ((n0 : Int) + 1))
  rw [putL_putL] at hmS
  have HG : Hid (W.grownBy ws (some mb)) := grown_trans hg9 (grown_trans hgr hgrs)
  have HMS : Hid (plKeys.Has ws mb (putL (plOf a m) (.int .i64 ((n0 : Int) + 1)) L)) := hmS
  clear hl0 hent0 hk0 hstp hkm hksm hmS hg9 hgr hgrs hszm hszs hokD hoksD hmD hz hg0
  go_wp2_with fail
  refine hK.out _ _ trivial (fun hHeld => ?_)
  clear hK K
  unfold plV
  refine wpAnyH_ready (rs := [3, 5]) (by kernel_rfl) (by simp) ?_
  refine AllReadyH.cons rfl (fun K hK => ?_) (AllReadyH.cons rfl (fun K hK => ?_) AllReadyH.nil)
  · go_simp
    refine hK.out _ _ trivial (fun hHeld2 => ?_)
    clear hK K
    refine wpAnyH_take (i := 4) (v := .int .i64 ((n0 : Int) + 1)) rfl (by kernel_rfl) (by kernel_rfl) (by kernel_rfl) (fun _ _ _ h => hp _ _ _ _ _ h) (Or.inl ⟨by rfl, ?_⟩) (by trivial) ?_
    · intro w hSw
      (go_simp; rw [IntKind.wrap_i64]; omega)
    (try simp only [Act.put, List.getElem_toArray, List.getElem_cons_zero, List.getElem_cons_succ, List.setIfInBounds_toArray, List.set_cons_zero, List.set_cons_succ])
    refine wpAnyH_ready (rs := [5]) (by kernel_rfl) (by simp) ?_
    refine AllReadyH.cons rfl (fun K hK => ?_) AllReadyH.nil
    go_simp
    refine hK.out _ _ trivial (fun hHeld3 => ?_)
    clear hK K
    refine wpAnyH_take (i := 6) (v := .int .i64 (st : Nat)) rfl (by kernel_rfl) (by kernel_rfl) (by kernel_rfl) (fun _ _ _ h => hp _ _ _ _ _ h) (Or.inl ⟨by rfl, ?_⟩) (by trivial) ?_
    · intro w hSw
      go_simp
    (try simp only [Act.put, List.getElem_toArray, List.getElem_cons_zero, List.getElem_cons_succ, List.setIfInBounds_toArray, List.set_cons_zero, List.set_cons_succ])
    refine wpAnyH_ready (rs := [7]) (by kernel_rfl) (by simp) ?_
    refine AllReadyH.cons rfl (fun K hK => ?_) AllReadyH.nil
    go_simp
    refine hK.out _ _ trivial (fun hHeld4 => ?_)
    clear hK K
    refine wpAnyH_done (by kernel_rfl) ?_ _
    exact h _ _ _ _ _ _ _ _ HMS.out HG.out
  · go_simp
    refine hK.out _ _ trivial (fun hHeld2 => ?_)
    clear hK K
    refine wpAnyH_take (i := 6) (v := .int .i64 (st : Nat)) rfl (by kernel_rfl) (by kernel_rfl) (by kernel_rfl) (fun _ _ _ h => hp _ _ _ _ _ h) (Or.inl ⟨by rfl, ?_⟩) (by trivial) ?_
    · intro w hSw
      go_simp
    (try simp only [Act.put, List.getElem_toArray, List.getElem_cons_zero, List.getElem_cons_succ, List.setIfInBounds_toArray, List.set_cons_zero, List.set_cons_succ])
    refine wpAnyH_ready (rs := [3]) (by kernel_rfl) (by simp) ?_
    refine AllReadyH.cons rfl (fun K hK => ?_) AllReadyH.nil
    go_simp
    refine hK.out _ _ trivial (fun hHeld3 => ?_)
    clear hK K
    refine wpAnyH_take (i := 4) (v := .int .i64 ((n0 : Int) + 1)) rfl (by kernel_rfl) (by kernel_rfl) (by kernel_rfl) (fun _ _ _ h => hp _ _ _ _ _ h) (Or.inl ⟨by rfl, ?_⟩) (by trivial) ?_
    · intro w hSw
      (go_simp; rw [IntKind.wrap_i64]; omega)
    (try simp only [Act.put, List.getElem_toArray, List.getElem_cons_zero, List.getElem_cons_succ, List.setIfInBounds_toArray, List.set_cons_zero, List.set_cons_succ])
    refine wpAnyH_ready (rs := [7]) (by kernel_rfl) (by simp) ?_
    refine AllReadyH.cons rfl (fun K hK => ?_) AllReadyH.nil
    go_simp
    refine hK.out _ _ trivial (fun hHeld4 => ?_)
    clear hK K
    refine wpAnyH_done (by kernel_rfl) ?_ _
    exact h _ _ _ _ _ _ _ _ HMS.out HG.out
end Go.Proofs.Ytapdlnakbpociaa
