/- How many trees a tree has, by the program: the last region. -/
import Derived.Test.YtapdlnakbpociaaZj
namespace Go.Proofs.Ytapdlnakbpociaa
open Go.RowKit
theorem grownBy_setC (w : World) (b i : Nat) (v : Value) : w.grownBy (w.setCell ⟨b, i, none⟩ v) (some b) :=
  ⟨rfl, rfl, rfl, by simp [World.setCell], fun k _ hk => Below.heap_setCell _ _ _ k (fun e => hk (by rw [e]))⟩
set_option maxRecDepth 100000 in
set_option maxHeartbeats 1000000 in
theorem ex16 {ds : List Deferred} {Q : Exit → Act → World → Prop} {t0 t1 t3 t4 t5 t6 t7 t8 t9 t11 t12 t13 t14 t15 t16 t17 t18 t19 t20 t21 t22 t23 t24 t25 t26 t27 t28 t29 t30 t31 t32 t33 t34 t35 t36 t37 t38 t39 t40 t41 t42 t43 t44 t45 t46 t47 t48 t49 t50 t51 t52 t53 t54 t55 t56 t57 t58 t59 t60 t61 t62 t63 t64 : Value} {W : World} {R C p q : Nat} {u0 u1 : Value}
    (RC : Row W C [.int .i64 p, .int .i64 q]) (RR : Row W R [u0, u1]) (hne : ¬ C = R)
    (hp : ∀ p d v a w, Q (.panic p) (Act.put a d v) w → Q (.panic p) a w) (h : ∀ ws v58 v59 v60 v61 v62 v63 v64, Row ws R [(.int .i64 (upTo2 p 1 : Nat)), (.int .i64 (upTo2 q 1 : Nat))] → W.grownBy ws (some R) → Q .normal { tmps := (t0 :: t1 :: (.pointer (some ⟨R, 0, none⟩)) :: t3 :: t4 :: t5 :: t6 :: t7 :: t8 :: t9 :: (.pointer (some ⟨C, 0, none⟩)) :: t11 :: t12 :: t13 :: t14 :: t15 :: t16 :: t17 :: t18 :: t19 :: t20 :: t21 :: t22 :: t23 :: t24 :: t25 :: t26 :: t27 :: t28 :: t29 :: t30 :: t31 :: t32 :: t33 :: t34 :: t35 :: t36 :: t37 :: t38 :: t39 :: t40 :: t41 :: t42 :: t43 :: t44 :: t45 :: t46 :: t47 :: t48 :: t49 :: t50 :: t51 :: t52 :: t53 :: t54 :: t55 :: t56 :: t57 :: v58 :: v59 :: v60 :: v61 :: v62 :: v63 :: v64 :: []).toArray, defers := ds } ws) :
    Code.wp Try.prog (Code.region 16 #[{ dst := some 58, op := Op.fieldAddr 49 (Operand.tmp 10) 0, type := 0, pos := "l3_tree.go:308", after := #[], guard := none }, { dst := some 59, op := Op.load 3 (Operand.tmp 58), type := 3, pos := "l3_tree.go:308", after := #[{ on := 0, ground := Ground.data }], guard := none }, { dst := some 60, op := Op.call { callee := Callee.value (Operand.func 50), args := #[Operand.tmp 59, Operand.const (Value.int IntKind.i64 1)], argTypes := #[3, 3] }, type := 3, pos := "l3_tree.go:308", after := #[{ on := 1, ground := Ground.data }], guard := none }, { dst := some 61, op := Op.fieldAddr 49 (Operand.tmp 10) 1, type := 0, pos := "l3_tree.go:308", after := #[], guard := none }, { dst := some 62, op := Op.load 3 (Operand.tmp 61), type := 3, pos := "l3_tree.go:308", after := #[{ on := 3, ground := Ground.data }], guard := none }, { dst := some 63, op := Op.call { callee := Callee.value (Operand.func 50), args := #[Operand.tmp 62, Operand.const (Value.int IntKind.i64 1)], argTypes := #[3, 3] }, type := 3, pos := "l3_tree.go:308", after := #[{ on := 4, ground := Ground.data }, { on := 2, ground := Ground.chain }], guard := none }, { dst := some 64, op := Op.build 49 #[(0, Operand.tmp 60), (1, Operand.tmp 63)], type := 49, pos := "l3_tree.go:308", after := #[{ on := 2, ground := Ground.data }, { on := 5, ground := Ground.data }], guard := none }, { dst := none, op := Op.store 49 (Operand.tmp 2) (Operand.tmp 64), type := 0, pos := "l3_tree.go:308", after := #[{ on := 6, ground := Ground.data }, { on := 5, ground := Ground.chain }, { on := 0, ground := Ground.phase }, { on := 1, ground := Ground.phase }, { on := 2, ground := Ground.phase }, { on := 3, ground := Ground.phase }, { on := 4, ground := Ground.phase }, { on := 5, ground := Ground.phase }, { on := 6, ground := Ground.phase }], guard := none }] true) Q { tmps := (t0 :: t1 :: (.pointer (some ⟨R, 0, none⟩)) :: t3 :: t4 :: t5 :: t6 :: t7 :: t8 :: t9 :: (.pointer (some ⟨C, 0, none⟩)) :: t11 :: t12 :: t13 :: t14 :: t15 :: t16 :: t17 :: t18 :: t19 :: t20 :: t21 :: t22 :: t23 :: t24 :: t25 :: t26 :: t27 :: t28 :: t29 :: t30 :: t31 :: t32 :: t33 :: t34 :: t35 :: t36 :: t37 :: t38 :: t39 :: t40 :: t41 :: t42 :: t43 :: t44 :: t45 :: t46 :: t47 :: t48 :: t49 :: t50 :: t51 :: t52 :: t53 :: t54 :: t55 :: t56 :: t57 :: t58 :: t59 :: t60 :: t61 :: t62 :: t63 :: t64 :: []).toArray, defers := ds } W := by
  have hC0 := (RC 0 _ rfl).1
  have hC1 := (RC 1 _ rfl).1
  have hCl := RC.lt
  have hRl := RR.lt
  have HR : Hid (Row W R [u0, u1]) := RR
  have HRC : Hid (Row W C [.int .i64 p, .int .i64 q]) := RC
  have hB0 := (Below.refl W.heap.size W).drew
  have HSof : Hid (∀ w', Below W.heap.size W w' → w'.cell? ⟨C, 0, none⟩ = some (.int .i64 p) ∧ w'.cell? ⟨C, 1, none⟩ = some (.int .i64 q)) := fun w' h => ⟨(h.cell (p := ⟨C, 0, none⟩) hCl).trans hC0, (h.cell (p := ⟨C, 1, none⟩) hCl).trans hC1⟩
  have hS0 := HSof.out _ hB0
  clear RC RR hC0 hC1
  refine wp_region_held_drew (S := fun w' => w'.cell? ⟨C, 0, none⟩ = some (.int .i64 p) ∧ w'.cell? ⟨C, 1, none⟩ = some (.int .i64 q)) (by kernel_rfl) hS0 (fun hHeld => ?_)
  refine wpAnyH_take (i := 0) (v := .pointer (some ⟨C, 0, none⟩)) rfl (by kernel_rfl) (by kernel_rfl) (by kernel_rfl) (fun _ _ _ h => hp _ _ _ _ _ h) (Or.inl ⟨by rfl, ?_⟩) (by assumption) ?_
  · intro w hSw
    (try dsimp only at hSw)
    go_simp
  (try simp only [Act.put, List.getElem_toArray, List.getElem_cons_zero, List.setIfInBounds_toArray, List.set_cons_zero, List.set_cons_succ])
  refine wpAnyH_take (i := 1) (v := .int .i64 p) rfl (by kernel_rfl) (by kernel_rfl) (by kernel_rfl) (fun _ _ _ h => hp _ _ _ _ _ h) (Or.inl ⟨by rfl, ?_⟩) (by assumption) ?_
  · intro w hSw
    (try dsimp only at hSw)
    go_simp
  (try simp only [Act.put, List.getElem_toArray, List.getElem_cons_zero, List.getElem_cons_succ, List.setIfInBounds_toArray, List.set_cons_zero, List.set_cons_succ])
  refine wpAnyH_take (i := 3) (v := .pointer (some ⟨C, 1, none⟩)) rfl (by kernel_rfl) (by kernel_rfl) (by kernel_rfl) (fun _ _ _ h => hp _ _ _ _ _ h) (Or.inl ⟨by rfl, ?_⟩) (by assumption) ?_
  · intro w hSw
    (try dsimp only at hSw)
    go_simp
  (try simp only [Act.put, List.getElem_toArray, List.getElem_cons_zero, List.getElem_cons_succ, List.setIfInBounds_toArray, List.set_cons_zero, List.set_cons_succ])
  refine wpAnyH_take (i := 4) (v := .int .i64 q) rfl (by kernel_rfl) (by kernel_rfl) (by kernel_rfl) (fun _ _ _ h => hp _ _ _ _ _ h) (Or.inl ⟨by rfl, ?_⟩) (by assumption) ?_
  · intro w hSw
    (try dsimp only at hSw)
    go_simp
  (try simp only [Act.put, List.getElem_toArray, List.getElem_cons_zero, List.getElem_cons_succ, List.setIfInBounds_toArray, List.set_cons_zero, List.set_cons_succ])
  refine wpAnyH_ready (rs := [2]) (by kernel_rfl) (by simp) ?_
  refine (AllReadyH.cons rfl (fun K hK => ?_) AllReadyH.nil)
  · go_simp
    refine (sumUpTo_any p 1 _ (by omega)).mono ?_
    rintro r w1 ⟨rfl, hb1⟩
    have hB1 := hB0.trans (hb1.mono hB0.size)
    go_wp2_with fail
    refine hK.out _ _ (HSof.out _ hB1) (fun hHeld => ?_)
    clear hK K
    refine wpAnyH_ready (rs := [5]) (by kernel_rfl) (by simp) ?_
    refine (AllReadyH.cons rfl (fun K hK => ?_) AllReadyH.nil)
    · go_simp
      refine (sumUpTo_any q 1 _ (by omega)).mono ?_
      rintro r w2 ⟨rfl, hb2⟩
      have hB2 := hB1.trans (hb2.mono hB1.size)
      go_wp2_with fail
      refine hK.out _ _ (HSof.out _ hB2) (fun hHeld => ?_)
      clear hK K
      refine wpAnyH_take (i := 6) (v := .agg #[(.int .i64 (upTo2 p 1 : Nat)), (.int .i64 (upTo2 q 1 : Nat))]) rfl (by kernel_rfl) (by kernel_rfl) (by kernel_rfl) (fun _ _ _ h => hp _ _ _ _ _ h) (Or.inl ⟨by rfl, ?_⟩) (by assumption) ?_
      · intro w hSw
        (try dsimp only at hSw)
        go_simp
      (try simp only [Act.put, List.getElem_toArray, List.getElem_cons_zero, List.getElem_cons_succ, List.setIfInBounds_toArray, List.set_cons_zero, List.set_cons_succ])
      have R2 := HR.out.below hB2 hRl
      obtain ⟨z0, z0f⟩ := R2 0 _ rfl
      obtain ⟨z1, z1f⟩ := R2 1 _ rfl
      have R3 := (R2.set (i := 0) (by simp) (.int .i64 (upTo2 p 1 : Nat))).set (i := 1) (by simp) (.int .i64 (upTo2 q 1 : Nat))
      have hS3 : (fun w' => w'.cell? ⟨C, 0, none⟩ = some (.int .i64 p) ∧ w'.cell? ⟨C, 1, none⟩ = some (.int .i64 q)) ((w2.setCell ⟨R, 0, none⟩ (.int .i64 (upTo2 p 1 : Nat))).setCell ⟨R, 1, none⟩ (.int .i64 (upTo2 q 1 : Nat))) := by
        have h2 := ((HRC.out.below hB2 hCl).setOther hne 0 (.int .i64 (upTo2 p 1 : Nat))).setOther hne 1 (.int .i64 (upTo2 q 1 : Nat))
        exact ⟨(h2 0 _ rfl).1, (h2 1 _ rfl).1⟩
      have hG : W.grownBy ((w2.setCell ⟨R, 0, none⟩ (.int .i64 (upTo2 p 1 : Nat))).setCell ⟨R, 1, none⟩ (.int .i64 (upTo2 q 1 : Nat))) (some R) := by
        refine grown_trans ⟨hB2.os, hB2.tape, hB2.output, hB2.size, fun k hk _ => hB2.block k hk⟩ (grown_trans (b := w2.setCell ⟨R, 0, none⟩ (.int .i64 (upTo2 p 1 : Nat))) ?_ ?_)
        · exact grownBy_setC _ _ _ _
        · exact grownBy_setC _ _ _ _
      refine wpAnyH_ready (rs := [7]) (by kernel_rfl) (by simp) ?_
      refine (AllReadyH.cons rfl (fun K hK => ?_) AllReadyH.nil)
      · go_simp
        refine hK.out _ _ hS3 (fun hHeld => ?_)
        clear hK K
        refine wpAnyH_done (by kernel_rfl) ?_ _
        exact h _ _ _ _ _ _ _ _ R3 hG
end Go.Proofs.Ytapdlnakbpociaa
