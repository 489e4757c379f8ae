/- Two values that are the same, by the program: the region that puts the pairs of two lists behind what is to be done. -/
import Derived.Test.YtohldacplapjkaaWi
import Derived.Test.YtohldacplapjkaaSj
namespace Go.Proofs.Ytohldacplapjkaa
open Go.RowKit
set_option maxRecDepth 100000 in
set_option maxHeartbeats 2000000 in
theorem sa11V {Q : Exit → Act → World → Prop} {t0 t1 t2 t3 t4 t5 t8 t9 t10 t11 t12 t13 t14 t15 t16 t17 t18 t19 t20 t21 t22 t23 t24 t25 t26 t27 t28 t29 t30 t31 t32 t33 t34 t35 t36 t37 t38 t39 t40 t41 t42 t43 t44 t45 t46 t47 t48 t49 t50 t51 t52 t53 t54 t55 t56 t57 t58 t59 t60 t61 t62 t63 t64 t65 t66 : Value} {W : World} {base pb N n : Nat} {v : Value} {xs : List Value} {xh : Hd} {xa : Option Addr} {xF : Vo} {xc : Nat} {yh : Hd} {ya : Option Addr} {yF : Vo} {yc : Nat}
    (hT : TwoV pb xh (.slice xa N xc) yh (.slice ya N yc) W) (hF : xF.In W xa) (hG : yF.In W ya) (hx : xF.len = N) (hy : yF.len = N) (hN : N ≤ 2000000) (hn : n ≤ 2000000) (hown : W.ownsRow base 62 12 v n xs) (hbase : base ≤ W.heap.size) (hne : some pb ≠ v.ownBlock)
    (hp : ∀ p d v a w, Q (.panic p) (Act.put a d v) w → Q (.panic p) a w) (h : ∀ ws v' v56 v57 v58 v59 v60 v61 v62 v63 v64 v65 v66, ws.ownsRow base 62 12 v' (n + N) (xs ++ pairCellsV xF yF N) → W.grownBy ws v.ownBlock → Q .normal { tmps := (t0 :: t1 :: t2 :: t3 :: t4 :: t5 :: v' :: .pointer (some ⟨pb, 0, none⟩) :: t8 :: t9 :: t10 :: t11 :: t12 :: t13 :: t14 :: t15 :: t16 :: t17 :: t18 :: t19 :: t20 :: t21 :: t22 :: t23 :: t24 :: t25 :: t26 :: t27 :: t28 :: t29 :: t30 :: t31 :: t32 :: t33 :: t34 :: t35 :: t36 :: t37 :: t38 :: t39 :: t40 :: t41 :: t42 :: t43 :: t44 :: t45 :: t46 :: t47 :: t48 :: t49 :: t50 :: t51 :: t52 :: t53 :: t54 :: t55 :: v56 :: v57 :: v58 :: v59 :: v60 :: v61 :: v62 :: v63 :: v64 :: v65 :: v66 :: []).toArray, defers := [] } ws) :
    Code.wp Try.prog (Code.region 11 #[{ dst := some 56, op := Op.move (Operand.tmp 6), type := 63, pos := "l3_tree.go:386", after := #[], guard := none }, { dst := some 57, op := Op.fieldAddr 62 (Operand.tmp 7) 0, type := 0, pos := "l3_tree.go:386", after := #[], guard := none }, { dst := some 58, op := Op.load 33 (Operand.tmp 57), type := 33, pos := "l3_tree.go:386", after := #[{ on := 1, ground := Ground.data }], guard := none }, { dst := some 59, op := Op.makeInterface 33 (Operand.tmp 58), type := 20, pos := "l3_tree.go:386", after := #[{ on := 2, ground := Ground.data }], guard := none }, { dst := some 60, op := Op.call { callee := Callee.invoke (Operand.tmp 59) "loop.example/chancery/impl.below", args := #[], argTypes := #[] }, type := 31, pos := "l3_tree.go:386", after := #[{ on := 3, ground := Ground.data }], guard := none }, { dst := some 61, op := Op.fieldAddr 62 (Operand.tmp 7) 1, type := 0, pos := "l3_tree.go:386", after := #[], guard := none }, { dst := some 62, op := Op.load 33 (Operand.tmp 61), type := 33, pos := "l3_tree.go:386", after := #[{ on := 5, ground := Ground.data }], guard := none }, { dst := some 63, op := Op.makeInterface 33 (Operand.tmp 62), type := 20, pos := "l3_tree.go:386", after := #[{ on := 6, ground := Ground.data }], guard := none }, { dst := some 64, op := Op.call { callee := Callee.invoke (Operand.tmp 63) "loop.example/chancery/impl.below", args := #[], argTypes := #[] }, type := 31, pos := "l3_tree.go:386", after := #[{ on := 7, ground := Ground.data }, { on := 4, ground := Ground.chain }], guard := none }, { dst := some 65, op := Op.call { callee := Callee.value (Operand.func 35), args := #[Operand.tmp 60, Operand.tmp 64], argTypes := #[31, 31] }, type := 63, pos := "l3_tree.go:386", after := #[{ on := 4, ground := Ground.data }, { on := 8, ground := Ground.data }, { on := 8, ground := Ground.chain }], guard := none }, { dst := some 66, op := Op.call { callee := Callee.builtin Builtin.append, args := #[Operand.tmp 56, Operand.tmp 65], argTypes := #[63, 63] }, type := 63, pos := "l3_tree.go:386", after := #[{ on := 0, ground := Ground.data }, { on := 9, ground := Ground.data }, { on := 9, ground := Ground.chain }], guard := none }, { dst := some 6, op := Op.assign (Operand.tmp 66), type := 63, pos := "l3_tree.go:386", after := #[{ on := 10, ground := Ground.data }, { on := 10, ground := Ground.chain }, { on := 0, ground := Ground.phase }, { on := 1, ground := Ground.phase }, { on := 2, ground := Ground.phase }, { on := 3, ground := Ground.phase }, { on := 4, ground := Ground.phase }, { on := 5, ground := Ground.phase }, { on := 6, ground := Ground.phase }, { on := 7, ground := Ground.phase }, { on := 8, ground := Ground.phase }, { on := 9, ground := Ground.phase }, { on := 10, ground := Ground.phase }], guard := none }] true) Q { tmps := (t0 :: t1 :: t2 :: t3 :: t4 :: t5 :: v :: .pointer (some ⟨pb, 0, none⟩) :: t8 :: t9 :: t10 :: t11 :: t12 :: t13 :: t14 :: t15 :: t16 :: t17 :: t18 :: t19 :: t20 :: t21 :: t22 :: t23 :: t24 :: t25 :: t26 :: t27 :: t28 :: t29 :: t30 :: t31 :: t32 :: t33 :: t34 :: t35 :: t36 :: t37 :: t38 :: t39 :: t40 :: t41 :: t42 :: t43 :: t44 :: t45 :: t46 :: t47 :: t48 :: t49 :: t50 :: t51 :: t52 :: t53 :: t54 :: t55 :: t56 :: t57 :: t58 :: t59 :: t60 :: t61 :: t62 :: t63 :: t64 :: t65 :: t66 :: []).toArray, defers := [] } W := by
  subst hx
  have hmeth := belowV_method
  obtain ⟨i0, hi, hz0, hz1, hz2⟩ := info_parts pairInfoV
  have hpl := hT.lt
  have HSof : Hid (∀ w', Below W.heap.size W w' → TwoV pb xh (.slice xa xF.len xc) yh (.slice ya xF.len yc) w') := fun w' h => hT.same (h.block _ hpl)
  have HOwn : Hid (∀ w', Below W.heap.size W w' → w'.ownsRow base 62 12 v n xs) := fun w' h => hown.kept (row := none) ⟨h.os, h.tape, h.output, h.size, fun k hk _ => h.block k hk⟩ (ob_or v)
  have HI : Hid (∀ w', Below W.heap.size W w' → xF.In w' xa ∧ yF.In w' ya) := fun w' h => ⟨hF.grow h, hG.grow h⟩
  have HL : Hid (xF.len = yF.len) := hy.symm
  have hS0 := HSof.out _ ((Below.refl _ W).drew)
  clear hT hF hG hy hown
  refine wp_region_held_drew (S := fun w' => TwoV pb xh (.slice xa xF.len xc) yh (.slice ya xF.len yc) w') (by kernel_rfl) hS0 (fun hHeld => ?_)
  refine wpAnyH_take (i := 0) (v := v) rfl (by kernel_rfl) (by kernel_rfl) (by kernel_rfl) (fun _ _ _ h => hp _ _ _ _ _ h) (Or.inl ⟨by rfl, ?_⟩) (by assumption) ?_
  · intro w hSw
    (try dsimp only at hSw)
    go_simp
  (try simp only [Act.put, List.getElem_toArray, List.getElem_cons_zero, List.setIfInBounds_toArray, List.set_cons_zero, List.set_cons_succ])
  refine wpAnyH_take (i := 1) (v := .pointer (some ⟨pb, 0, none⟩)) rfl (by kernel_rfl) (by kernel_rfl) (by kernel_rfl) (fun _ _ _ h => hp _ _ _ _ _ h) (Or.inl ⟨by rfl, ?_⟩) (by assumption) ?_
  · intro w hSw
    (try dsimp only at hSw)
    go_simp
  (try simp only [Act.put, List.getElem_toArray, List.getElem_cons_zero, List.getElem_cons_succ, List.setIfInBounds_toArray, List.set_cons_zero, List.set_cons_succ])
  refine wpAnyH_take (i := 2) (v := valV xh xa xF.len xc) rfl (by kernel_rfl) (by kernel_rfl) (by kernel_rfl) (fun _ _ _ h => hp _ _ _ _ _ h) (Or.inl ⟨by rfl, ?_⟩) (by assumption) ?_
  · intro w hSw
    (try dsimp only at hSw)
    go_simp
  (try simp only [Act.put, List.getElem_toArray, List.getElem_cons_zero, List.getElem_cons_succ, List.setIfInBounds_toArray, List.set_cons_zero, List.set_cons_succ])
  refine wpAnyH_take (i := 3) (v := .iface 33 (valV xh xa xF.len xc)) rfl (by kernel_rfl) (by kernel_rfl) (by kernel_rfl) (fun _ _ _ h => hp _ _ _ _ _ h) (Or.inl ⟨by rfl, ?_⟩) (by assumption) ?_
  · intro w hSw
    (try dsimp only at hSw)
    go_simp
  (try simp only [Act.put, List.getElem_toArray, List.getElem_cons_zero, List.getElem_cons_succ, List.setIfInBounds_toArray, List.set_cons_zero, List.set_cons_succ])
  refine wpAnyH_take (i := 5) (v := .pointer (some ⟨pb, 6, none⟩)) rfl (by kernel_rfl) (by kernel_rfl) (by kernel_rfl) (fun _ _ _ h => hp _ _ _ _ _ h) (Or.inl ⟨by rfl, ?_⟩) (by assumption) ?_
  · intro w hSw
    (try dsimp only at hSw)
    go_simp
  (try simp only [Act.put, List.getElem_toArray, List.getElem_cons_zero, List.getElem_cons_succ, List.setIfInBounds_toArray, List.set_cons_zero, List.set_cons_succ])
  refine wpAnyH_take (i := 6) (v := valV yh ya xF.len yc) rfl (by kernel_rfl) (by kernel_rfl) (by kernel_rfl) (fun _ _ _ h => hp _ _ _ _ _ h) (Or.inl ⟨by rfl, ?_⟩) (by assumption) ?_
  · intro w hSw
    (try dsimp only at hSw)
    go_simp
  (try simp only [Act.put, List.getElem_toArray, List.getElem_cons_zero, List.getElem_cons_succ, List.setIfInBounds_toArray, List.set_cons_zero, List.set_cons_succ])
  refine wpAnyH_take (i := 7) (v := .iface 33 (valV yh ya xF.len yc)) rfl (by kernel_rfl) (by kernel_rfl) (by kernel_rfl) (fun _ _ _ h => hp _ _ _ _ _ h) (Or.inl ⟨by rfl, ?_⟩) (by assumption) ?_
  · intro w hSw
    (try dsimp only at hSw)
    go_simp
  (try simp only [Act.put, List.getElem_toArray, List.getElem_cons_zero, List.getElem_cons_succ, List.setIfInBounds_toArray, List.set_cons_zero, List.set_cons_succ])
  have hB0 := (Below.refl W.heap.size W).drew
  refine wpAnyH_ready (rs := [4]) (by kernel_rfl) (by simp) ?_
  refine AllReadyH.cons rfl (fun K hK => ?_) AllReadyH.nil
  go_simp
  refine (belowV_any xh xa xF.len xc _).mono ?_
  rintro r w1 ⟨rfl, hb1⟩
  have hB1 := hB0.trans (hb1.mono hB0.size)
  go_wp2_with fail
  refine hK.out _ _ (HSof.out _ hB1) (fun hHeld => ?_)
  clear hK K hB0 hb1
  refine wpAnyH_ready (rs := [8]) (by kernel_rfl) (by simp) ?_
  refine AllReadyH.cons rfl (fun K hK => ?_) AllReadyH.nil
  go_simp
  refine (belowV_any yh ya xF.len yc _).mono ?_
  rintro r w2 ⟨rfl, hb2⟩
  have hB2 := hB1.trans (hb2.mono hB1.size)
  go_wp2_with fail
  refine hK.out _ _ (HSof.out _ hB2) (fun hHeld => ?_)
  clear hK K hB1 hb2
  refine wpAnyH_ready (rs := [9]) (by kernel_rfl) (by simp) ?_
  refine AllReadyH.cons rfl (fun K hK => ?_) AllReadyH.nil
  go_simp
  refine (pairsOfV_any xF yF xa ya xc yc _ HL.out (HI.out _ hB2).1 (HI.out _ hB2).2 hN).mono ?_
  rintro r w3 ⟨⟨v9, rfl, hown9⟩, hb3⟩
  have hB3 := hB2.trans (hb3.mono hB2.size)
  go_wp2_with fail
  refine hK.out _ _ (HSof.out _ hB3) (fun hHeld => ?_)
  clear hK K hb3
  refine wpAnyH_ready (rs := [10]) (by kernel_rfl) (by simp) ?_
  refine AllReadyH.cons rfl (fun K hK => ?_) AllReadyH.nil
  refine wp_append_two w3 _ _ 63 rfl base w2.heap.size 62 i0 _ 12 176 Try.underlying63 hi hz0 hz1 hz2 rfl (by decide) v n xs rfl (HOwn.out _ hB3) v9 xF.len (pairCellsV xF yF xF.len) rfl hown9 (pairCellsV_one _ _ _) (by unfold maxLen; omega) (by omega) (Nat.le_trans hbase hB3.size) ?_
  intro v' w4 hown4 hgr4
  have hT4 : TwoV pb xh (.slice xa xF.len xc) yh (.slice ya xF.len yc) w4 := (HSof.out _ hB3).same (hgr4.block pb (Nat.lt_of_lt_of_le hpl hB3.size) hne)
  refine hK.out _ _ hT4 (fun hHeld => ?_)
  clear hK K
  (try simp only [Act.put, List.getElem_toArray, List.getElem_cons_zero, List.getElem_cons_succ, List.setIfInBounds_toArray, List.set_cons_zero, List.set_cons_succ])
  refine wpAnyH_take (i := 11) (v := v') rfl (by kernel_rfl) (by kernel_rfl) (by kernel_rfl) (fun _ _ _ h => hp _ _ _ _ _ h) (Or.inl ⟨by rfl, ?_⟩) (by assumption) ?_
  · intro w hSw
    (try dsimp only at hSw)
    go_simp
  (try simp only [Act.put, List.getElem_toArray, List.getElem_cons_zero, List.getElem_cons_succ, List.setIfInBounds_toArray, List.set_cons_zero, List.set_cons_succ])
  refine wpAnyH_done (by kernel_rfl) ?_ _
  exact h _ _ _ _ _ _ _ _ _ _ _ _ _ hown4 (grown_trans ⟨hB3.os, hB3.tape, hB3.output, hB3.size, fun k hk _ => hB3.block k hk⟩ hgr4)
end Go.Proofs.Ytohldacplapjkaa
