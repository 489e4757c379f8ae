/- How many trees a tree has, by the program: regions of a round. -/
import Derived.Test.YtapdlnakbpociaaZf
namespace Go.Proofs.Ytapdlnakbpociaa
open Go.RowKit
def noDefer (ops : Array Oper) : Bool := ops.all fun o => match o.op with | .defer _ => false | _ => true
theorem noDefer_is {ops : Array Oper} (h : noDefer ops = true) : ∀ (i : Nat) (o : Oper), ops[i]? = some o → ∀ c, o.op ≠ .defer c := by
  intro i o ho c e
  obtain ⟨hi, rfl⟩ := Array.getElem?_eq_some_iff.1 ho
  have := (Array.all_eq_true.1 h) i hi
  rw [e] at this
  cases this
theorem wpIn_region_round2 {P : Program} {ops : Array Oper} {Q : Exit → Act → World → Prop} {n l : Nat} {S : World → Prop} {id : Nat} {a : Act} {w : World} (hd : noDefer ops = true) (hm : P.follows .mixedOrders = true) (hS : S w.drew)
    (h : S w.drew → wpAnyH P .any ops (fun e a w => e ≠ .outgrown ∧ Q e a w) S ops.size (Array.replicate ops.size false) a w.drew) : (Code.region id ops true).wpIn (Fence.wide.inRound l) n P Q a w :=
  wpIn_mono (wpIn_region_round (noDefer_is hd) (fun ⟨_, _, h⟩ => h.1 rfl) hm hS h) (fun _ _ _ h => h.2)
theorem max_cast (x y : Nat) : ((max x y : Nat) : Int) = max (x : Int) (y : Int) := by omega
theorem upTo2_le (x y : Nat) : upTo2 x y ≤ 9223372036854775807 := by unfold upTo2; split <;> omega
set_option maxRecDepth 100000 in
set_option maxHeartbeats 1000000 in
theorem ex11 {Q : Exit → Act → World → Prop} {l n : Nat} {t0 t1 t2 t3 t4 t6 t7 t9 t10 t11 t12 t13 t14 t15 t16 t17 t18 t19 t20 t21 t22 t23 t24 t25 t26 t27 t28 t29 t30 t31 t32 t33 t34 t35 t36 t37 t38 t39 t40 t41 t42 t43 t44 t45 t46 t47 t48 t49 t50 t51 t52 t53 t54 t55 t56 t57 t58 t59 t60 t61 t62 t63 t64 : Value} {W : World} {A C x y p q : Nat}
    (RA : Row W A [.int .i64 x, .int .i64 y]) (RC : Row W C [.int .i64 p, .int .i64 q])
    (hp : ∀ p d v a w, Q (.panic p) (Act.put a d v) w → Q (.panic p) a w) (h : ∀ ws w9 v33 v34 v35 v36 v37 v38 v39, Below W.heap.size W w9 → ws = w9.setCell ⟨A, 0, none⟩ (.int .i64 (upTo2 x (upTo2 p 1) : Nat)) → Q .normal { tmps := (t0 :: t1 :: t2 :: t3 :: t4 :: (.pointer (some ⟨A, 0, none⟩)) :: t6 :: t7 :: (.pointer (some ⟨C, 0, none⟩)) :: t9 :: t10 :: t11 :: t12 :: t13 :: t14 :: t15 :: t16 :: t17 :: t18 :: t19 :: t20 :: t21 :: t22 :: t23 :: t24 :: t25 :: t26 :: t27 :: t28 :: t29 :: t30 :: t31 :: t32 :: v33 :: v34 :: v35 :: v36 :: v37 :: v38 :: v39 :: t40 :: t41 :: t42 :: t43 :: t44 :: t45 :: t46 :: t47 :: t48 :: t49 :: t50 :: t51 :: t52 :: t53 :: t54 :: t55 :: t56 :: t57 :: t58 :: t59 :: t60 :: t61 :: t62 :: t63 :: t64 :: []).toArray, defers := [] } ws) :
    Code.wpIn (Fence.wide.inRound l) n Try.prog (Code.region 11 #[{ dst := some 33, op := Op.fieldAddr 49 (Operand.tmp 5) 0, type := 0, pos := "l3_tree.go:302", after := #[], guard := none }, { dst := some 34, op := Op.load 3 (Operand.tmp 33), type := 3, pos := "l3_tree.go:302", after := #[{ on := 0, ground := Ground.data }], guard := none }, { dst := some 35, op := Op.fieldAddr 49 (Operand.tmp 8) 0, type := 0, pos := "l3_tree.go:302", after := #[], guard := none }, { dst := some 36, op := Op.load 3 (Operand.tmp 35), type := 3, pos := "l3_tree.go:302", after := #[{ on := 2, ground := Ground.data }], guard := none }, { dst := some 37, op := Op.call { callee := Callee.value (Operand.func 50), args := #[Operand.tmp 36, Operand.const (Value.int IntKind.i64 1)], argTypes := #[3, 3] }, type := 3, pos := "l3_tree.go:302", after := #[{ on := 3, ground := Ground.data }], guard := none }, { dst := some 38, op := Op.call { callee := Callee.value (Operand.func 50), args := #[Operand.tmp 34, Operand.tmp 37], argTypes := #[3, 3] }, type := 3, pos := "l3_tree.go:302", after := #[{ on := 1, ground := Ground.data }, { on := 4, ground := Ground.data }, { on := 4, ground := Ground.chain }], guard := none }, { dst := some 39, op := Op.fieldAddr 49 (Operand.tmp 5) 0, type := 0, pos := "l3_tree.go:302", after := #[{ on := 0, ground := Ground.phase }, { on := 1, ground := Ground.phase }, { on := 2, ground := Ground.phase }, { on := 3, ground := Ground.phase }, { on := 4, ground := Ground.phase }, { on := 5, ground := Ground.phase }], guard := none }, { dst := none, op := Op.store 3 (Operand.tmp 39) (Operand.tmp 38), type := 0, pos := "l3_tree.go:302", after := #[{ on := 6, ground := Ground.data }, { on := 5, ground := Ground.data }, { on := 5, ground := Ground.chain }, { on := 0, ground := Ground.phase }, { on := 1, ground := Ground.phase }, { on := 2, ground := Ground.phase }, { on := 3, ground := Ground.phase }, { on := 4, ground := Ground.phase }, { on := 5, ground := Ground.phase }], guard := none }] true) Q { tmps := (t0 :: t1 :: t2 :: t3 :: t4 :: (.pointer (some ⟨A, 0, none⟩)) :: t6 :: t7 :: (.pointer (some ⟨C, 0, none⟩)) :: t9 :: t10 :: t11 :: t12 :: t13 :: t14 :: t15 :: t16 :: t17 :: t18 :: t19 :: t20 :: t21 :: t22 :: t23 :: t24 :: t25 :: t26 :: t27 :: t28 :: t29 :: t30 :: t31 :: t32 :: t33 :: t34 :: t35 :: t36 :: t37 :: t38 :: t39 :: t40 :: t41 :: t42 :: t43 :: t44 :: t45 :: t46 :: t47 :: t48 :: t49 :: t50 :: t51 :: t52 :: t53 :: t54 :: t55 :: t56 :: t57 :: t58 :: t59 :: t60 :: t61 :: t62 :: t63 :: t64 :: []).toArray, defers := [] } W := by
  have hA := (RA 0 _ rfl).1
  have hC := (RC 0 _ rfl).1
  have HRA : Hid (Row W A [.int .i64 x, .int .i64 y]) := RA
  have hA9 : W.drew.cell? ⟨A, 0, none⟩ = some (.int .i64 x) := hA
  have hC9 : W.drew.cell? ⟨C, 0, none⟩ = some (.int .i64 p) := hC
  have hAl := World.block_lt_of_cell? _ _ hA
  have hB0 := (Below.refl W.heap.size W).drew
  clear hA hC RA RC
  refine wpIn_region_round2 (S := fun _ => True) (by kernel_rfl) (by kernel_rfl) trivial (fun hHeld => ?_)
  refine wpAnyH_take (i := 0) (v := .pointer (some ⟨A, 0, none⟩)) rfl (by kernel_rfl) (by kernel_rfl) (by kernel_rfl) (fun _ _ _ h => ⟨h.1, hp _ _ _ _ _ h.2⟩) (Or.inl ⟨by rfl, ?_⟩) (by trivial) ?_
  · intro w hSw
    go_simp
  (try simp only [Act.put, List.getElem_toArray, List.getElem_cons_zero, List.setIfInBounds_toArray, List.set_cons_zero, List.set_cons_succ])
  refine wpAnyH_take (i := 2) (v := .pointer (some ⟨C, 0, none⟩)) rfl (by kernel_rfl) (by kernel_rfl) (by kernel_rfl) (fun _ _ _ h => ⟨h.1, hp _ _ _ _ _ h.2⟩) (Or.inl ⟨by rfl, ?_⟩) (by trivial) ?_
  · intro w hSw
    go_simp
  (try simp only [Act.put, List.getElem_toArray, List.getElem_cons_zero, List.getElem_cons_succ, List.setIfInBounds_toArray, List.set_cons_zero, List.set_cons_succ])
  refine wpAnyH_ready (rs := [1, 3]) (by kernel_rfl) (by simp) ?_
  refine (AllReadyH.cons rfl (fun K hK => ?_) (AllReadyH.cons rfl (fun K hK => ?_) AllReadyH.nil))
  · go_simp
    refine hK.out _ _ trivial (fun hHeld => ?_)
    clear hK K
    (try simp only [Act.put, List.getElem_toArray, List.getElem_cons_zero, List.getElem_cons_succ, List.setIfInBounds_toArray, List.set_cons_zero, List.set_cons_succ])
    refine wpAnyH_ready (rs := [3]) (by kernel_rfl) (by simp) ?_
    refine (AllReadyH.cons rfl (fun K hK => ?_) AllReadyH.nil)
    · go_simp
      refine hK.out _ _ trivial (fun hHeld => ?_)
      clear hK K
      (try simp only [Act.put, List.getElem_toArray, List.getElem_cons_zero, List.getElem_cons_succ, List.setIfInBounds_toArray, List.set_cons_zero, List.set_cons_succ])
      refine wpAnyH_ready (rs := [4]) (by kernel_rfl) (by simp) ?_
      refine (AllReadyH.cons rfl (fun K hK => ?_) AllReadyH.nil)
      · go_simp
        refine (sumUpTo_any p 1 _ (by omega)).mono ?_
        rintro r w1 ⟨rfl, hb1⟩
        have hB1 := hB0.trans (hb1.mono hB0.size)
        have hA1 : w1.cell? ⟨A, 0, none⟩ = some (.int .i64 x) := (hB1.cell (p := ⟨A, 0, none⟩) hAl).trans hA9
        go_wp2_with fail
        refine hK.out _ _ trivial (fun hHeld => ?_)
        clear hK K
        refine wpAnyH_ready (rs := [5]) (by kernel_rfl) (by simp) ?_
        refine (AllReadyH.cons rfl (fun K hK => ?_) AllReadyH.nil)
        · go_simp
          refine (sumUpTo_any x (upTo2 p 1) _ (upTo2_le _ _)).mono ?_
          rintro r w2 ⟨rfl, hb2⟩
          have hB2 := hB1.trans (hb2.mono hB1.size)
          go_wp2_with fail
          refine hK.out _ _ trivial (fun hHeld => ?_)
          clear hK K
          have hA2 : w2.cell? ⟨A, 0, none⟩ = some (.int .i64 x) := (hB2.cell (p := ⟨A, 0, none⟩) hAl).trans hA9
          have hz2 := ((HRA.out.below hB2 hAl) 0 _ rfl).2
          clear hA9 hC9
          refine wpAnyH_take (i := 6) (v := .pointer (some ⟨A, 0, none⟩)) rfl (by kernel_rfl) (by kernel_rfl) (by kernel_rfl) (fun _ _ _ h => ⟨h.1, hp _ _ _ _ _ h.2⟩) (Or.inl ⟨by rfl, ?_⟩) (by trivial) ?_
          · intro w hSw
            go_simp
          (try simp only [Act.put, List.getElem_toArray, List.getElem_cons_zero, List.getElem_cons_succ, List.setIfInBounds_toArray, List.set_cons_zero, List.set_cons_succ])
          refine wpAnyH_ready (rs := [7]) (by kernel_rfl) (by simp) ?_
          refine (AllReadyH.cons rfl (fun K hK => ?_) AllReadyH.nil)
          · go_simp
            refine hK.out _ _ trivial (fun hHeld => ?_)
            refine wpAnyH_done (by kernel_rfl) ?_ _
            exact ⟨(fun e => by cases e), h _ w2 _ _ _ _ _ _ _ hB2 rfl⟩
  · go_simp
    refine hK.out _ _ trivial (fun hHeld => ?_)
    clear hK K
    (try simp only [Act.put, List.getElem_toArray, List.getElem_cons_zero, List.getElem_cons_succ, List.setIfInBounds_toArray, List.set_cons_zero, List.set_cons_succ])
    refine wpAnyH_ready (rs := [1, 4]) (by kernel_rfl) (by simp) ?_
    refine (AllReadyH.cons rfl (fun K hK => ?_) (AllReadyH.cons rfl (fun K hK => ?_) AllReadyH.nil))
    · go_simp
      refine hK.out _ _ trivial (fun hHeld => ?_)
      clear hK K
      (try simp only [Act.put, List.getElem_toArray, List.getElem_cons_zero, List.getElem_cons_succ, List.setIfInBounds_toArray, List.set_cons_zero, List.set_cons_succ])
      refine wpAnyH_ready (rs := [4]) (by kernel_rfl) (by simp) ?_
      refine (AllReadyH.cons rfl (fun K hK => ?_) AllReadyH.nil)
      · go_simp
        refine (sumUpTo_any p 1 _ (by omega)).mono ?_
        rintro r w1 ⟨rfl, hb1⟩
        have hB1 := hB0.trans (hb1.mono hB0.size)
        have hA1 : w1.cell? ⟨A, 0, none⟩ = some (.int .i64 x) := (hB1.cell (p := ⟨A, 0, none⟩) hAl).trans hA9
        go_wp2_with fail
        refine hK.out _ _ trivial (fun hHeld => ?_)
        clear hK K
        refine wpAnyH_ready (rs := [5]) (by kernel_rfl) (by simp) ?_
        refine (AllReadyH.cons rfl (fun K hK => ?_) AllReadyH.nil)
        · go_simp
          refine (sumUpTo_any x (upTo2 p 1) _ (upTo2_le _ _)).mono ?_
          rintro r w2 ⟨rfl, hb2⟩
          have hB2 := hB1.trans (hb2.mono hB1.size)
          go_wp2_with fail
          refine hK.out _ _ trivial (fun hHeld => ?_)
          clear hK K
          have hA2 : w2.cell? ⟨A, 0, none⟩ = some (.int .i64 x) := (hB2.cell (p := ⟨A, 0, none⟩) hAl).trans hA9
          have hz2 := ((HRA.out.below hB2 hAl) 0 _ rfl).2
          clear hA9 hC9
          refine wpAnyH_take (i := 6) (v := .pointer (some ⟨A, 0, none⟩)) rfl (by kernel_rfl) (by kernel_rfl) (by kernel_rfl) (fun _ _ _ h => ⟨h.1, hp _ _ _ _ _ h.2⟩) (Or.inl ⟨by rfl, ?_⟩) (by trivial) ?_
          · intro w hSw
            go_simp
          (try simp only [Act.put, List.getElem_toArray, List.getElem_cons_zero, List.getElem_cons_succ, List.setIfInBounds_toArray, List.set_cons_zero, List.set_cons_succ])
          refine wpAnyH_ready (rs := [7]) (by kernel_rfl) (by simp) ?_
          refine (AllReadyH.cons rfl (fun K hK => ?_) AllReadyH.nil)
          · go_simp
            refine hK.out _ _ trivial (fun hHeld => ?_)
            refine wpAnyH_done (by kernel_rfl) ?_ _
            exact ⟨(fun e => by cases e), h _ w2 _ _ _ _ _ _ _ hB2 rfl⟩
    · go_simp
      refine (sumUpTo_any p 1 _ (by omega)).mono ?_
      rintro r w1 ⟨rfl, hb1⟩
      have hB1 := hB0.trans (hb1.mono hB0.size)
      have hA1 : w1.cell? ⟨A, 0, none⟩ = some (.int .i64 x) := (hB1.cell (p := ⟨A, 0, none⟩) hAl).trans hA9
      go_wp2_with fail
      refine hK.out _ _ trivial (fun hHeld => ?_)
      clear hK K
      refine wpAnyH_ready (rs := [1]) (by kernel_rfl) (by simp) ?_
      refine (AllReadyH.cons rfl (fun K hK => ?_) AllReadyH.nil)
      · go_simp
        refine hK.out _ _ trivial (fun hHeld => ?_)
        clear hK K
        (try simp only [Act.put, List.getElem_toArray, List.getElem_cons_zero, List.getElem_cons_succ, List.setIfInBounds_toArray, List.set_cons_zero, List.set_cons_succ])
        refine wpAnyH_ready (rs := [5]) (by kernel_rfl) (by simp) ?_
        refine (AllReadyH.cons rfl (fun K hK => ?_) AllReadyH.nil)
        · go_simp
          refine (sumUpTo_any x (upTo2 p 1) _ (upTo2_le _ _)).mono ?_
          rintro r w2 ⟨rfl, hb2⟩
          have hB2 := hB1.trans (hb2.mono hB1.size)
          go_wp2_with fail
          refine hK.out _ _ trivial (fun hHeld => ?_)
          clear hK K
          have hA2 : w2.cell? ⟨A, 0, none⟩ = some (.int .i64 x) := (hB2.cell (p := ⟨A, 0, none⟩) hAl).trans hA9
          have hz2 := ((HRA.out.below hB2 hAl) 0 _ rfl).2
          clear hA9 hC9
          refine wpAnyH_take (i := 6) (v := .pointer (some ⟨A, 0, none⟩)) rfl (by kernel_rfl) (by kernel_rfl) (by kernel_rfl) (fun _ _ _ h => ⟨h.1, hp _ _ _ _ _ h.2⟩) (Or.inl ⟨by rfl, ?_⟩) (by trivial) ?_
          · intro w hSw
            go_simp
          (try simp only [Act.put, List.getElem_toArray, List.getElem_cons_zero, List.getElem_cons_succ, List.setIfInBounds_toArray, List.set_cons_zero, List.set_cons_succ])
          refine wpAnyH_ready (rs := [7]) (by kernel_rfl) (by simp) ?_
          refine (AllReadyH.cons rfl (fun K hK => ?_) AllReadyH.nil)
          · go_simp
            refine hK.out _ _ trivial (fun hHeld => ?_)
            refine wpAnyH_done (by kernel_rfl) ?_ _
            exact ⟨(fun e => by cases e), h _ w2 _ _ _ _ _ _ _ hB2 rfl⟩
set_option maxRecDepth 100000 in
set_option maxHeartbeats 1000000 in
theorem ex12 {Q : Exit → Act → World → Prop} {l n : Nat} {t0 t1 t2 t3 t4 t6 t7 t9 t10 t11 t12 t13 t14 t15 t16 t17 t18 t19 t20 t21 t22 t23 t24 t25 t26 t27 t28 t29 t30 t31 t32 t33 t34 t35 t36 t37 t38 t39 t40 t41 t42 t43 t44 t45 t46 t47 t48 t49 t50 t51 t52 t53 t54 t55 t56 t57 t58 t59 t60 t61 t62 t63 t64 : Value} {W : World} {A C x y p q : Nat}
    (RA : Row W A [.int .i64 x, .int .i64 y]) (RC : Row W C [.int .i64 p, .int .i64 q])
    (hp : ∀ p d v a w, Q (.panic p) (Act.put a d v) w → Q (.panic p) a w) (h : ∀ ws w9 v40 v41 v42 v43 v44 v45 v46, Below W.heap.size W w9 → ws = w9.setCell ⟨A, 1, none⟩ (.int .i64 (max y (upTo2 q 1) : Nat)) → Q .normal { tmps := (t0 :: t1 :: t2 :: t3 :: t4 :: (.pointer (some ⟨A, 0, none⟩)) :: t6 :: t7 :: (.pointer (some ⟨C, 0, none⟩)) :: t9 :: t10 :: t11 :: t12 :: t13 :: t14 :: t15 :: t16 :: t17 :: t18 :: t19 :: t20 :: t21 :: t22 :: t23 :: t24 :: t25 :: t26 :: t27 :: t28 :: t29 :: t30 :: t31 :: t32 :: t33 :: t34 :: t35 :: t36 :: t37 :: t38 :: t39 :: v40 :: v41 :: v42 :: v43 :: v44 :: v45 :: v46 :: t47 :: t48 :: t49 :: t50 :: t51 :: t52 :: t53 :: t54 :: t55 :: t56 :: t57 :: t58 :: t59 :: t60 :: t61 :: t62 :: t63 :: t64 :: []).toArray, defers := [] } ws) :
    Code.wpIn (Fence.wide.inRound l) n Try.prog (Code.region 12 #[{ dst := some 40, op := Op.fieldAddr 49 (Operand.tmp 5) 1, type := 0, pos := "l3_tree.go:303", after := #[], guard := none }, { dst := some 41, op := Op.load 3 (Operand.tmp 40), type := 3, pos := "l3_tree.go:303", after := #[{ on := 0, ground := Ground.data }], guard := none }, { dst := some 42, op := Op.fieldAddr 49 (Operand.tmp 8) 1, type := 0, pos := "l3_tree.go:303", after := #[], guard := none }, { dst := some 43, op := Op.load 3 (Operand.tmp 42), type := 3, pos := "l3_tree.go:303", after := #[{ on := 2, ground := Ground.data }], guard := none }, { dst := some 44, op := Op.call { callee := Callee.value (Operand.func 50), args := #[Operand.tmp 43, Operand.const (Value.int IntKind.i64 1)], argTypes := #[3, 3] }, type := 3, pos := "l3_tree.go:303", after := #[{ on := 3, ground := Ground.data }], guard := none }, { dst := some 45, op := Op.call { callee := Callee.builtin Builtin.max, args := #[Operand.tmp 41, Operand.tmp 44], argTypes := #[3, 3] }, type := 3, pos := "l3_tree.go:303", after := #[{ on := 1, ground := Ground.data }, { on := 4, ground := Ground.data }], guard := none }, { dst := some 46, op := Op.fieldAddr 49 (Operand.tmp 5) 1, type := 0, pos := "l3_tree.go:303", after := #[{ on := 0, ground := Ground.phase }, { on := 1, ground := Ground.phase }, { on := 2, ground := Ground.phase }, { on := 3, ground := Ground.phase }, { on := 4, ground := Ground.phase }, { on := 5, ground := Ground.phase }], guard := none }, { dst := none, op := Op.store 3 (Operand.tmp 46) (Operand.tmp 45), type := 0, pos := "l3_tree.go:303", after := #[{ on := 6, ground := Ground.data }, { on := 5, ground := Ground.data }, { on := 4, ground := Ground.chain }, { on := 0, ground := Ground.phase }, { on := 1, ground := Ground.phase }, { on := 2, ground := Ground.phase }, { on := 3, ground := Ground.phase }, { on := 4, ground := Ground.phase }, { on := 5, ground := Ground.phase }], guard := none }] true) Q { tmps := (t0 :: t1 :: t2 :: t3 :: t4 :: (.pointer (some ⟨A, 0, none⟩)) :: t6 :: t7 :: (.pointer (some ⟨C, 0, none⟩)) :: t9 :: t10 :: t11 :: t12 :: t13 :: t14 :: t15 :: t16 :: t17 :: t18 :: t19 :: t20 :: t21 :: t22 :: t23 :: t24 :: t25 :: t26 :: t27 :: t28 :: t29 :: t30 :: t31 :: t32 :: t33 :: t34 :: t35 :: t36 :: t37 :: t38 :: t39 :: t40 :: t41 :: t42 :: t43 :: t44 :: t45 :: t46 :: t47 :: t48 :: t49 :: t50 :: t51 :: t52 :: t53 :: t54 :: t55 :: t56 :: t57 :: t58 :: t59 :: t60 :: t61 :: t62 :: t63 :: t64 :: []).toArray, defers := [] } W := by
  have hA := (RA 1 _ rfl).1
  have hC := (RC 1 _ rfl).1
  have HRA : Hid (Row W A [.int .i64 x, .int .i64 y]) := RA
  have hA9 : W.drew.cell? ⟨A, 1, none⟩ = some (.int .i64 y) := hA
  have hC9 : W.drew.cell? ⟨C, 1, none⟩ = some (.int .i64 q) := hC
  have hAl := World.block_lt_of_cell? _ _ hA
  have hB0 := (Below.refl W.heap.size W).drew
  clear hA hC RA RC
  refine wpIn_region_round2 (S := fun _ => True) (by kernel_rfl) (by kernel_rfl) trivial (fun hHeld => ?_)
  refine wpAnyH_take (i := 0) (v := .pointer (some ⟨A, 1, none⟩)) rfl (by kernel_rfl) (by kernel_rfl) (by kernel_rfl) (fun _ _ _ h => ⟨h.1, hp _ _ _ _ _ h.2⟩) (Or.inl ⟨by rfl, ?_⟩) (by trivial) ?_
  · intro w hSw
    go_simp
  (try simp only [Act.put, List.getElem_toArray, List.getElem_cons_zero, List.setIfInBounds_toArray, List.set_cons_zero, List.set_cons_succ])
  refine wpAnyH_take (i := 2) (v := .pointer (some ⟨C, 1, none⟩)) rfl (by kernel_rfl) (by kernel_rfl) (by kernel_rfl) (fun _ _ _ h => ⟨h.1, hp _ _ _ _ _ h.2⟩) (Or.inl ⟨by rfl, ?_⟩) (by trivial) ?_
  · intro w hSw
    go_simp
  (try simp only [Act.put, List.getElem_toArray, List.getElem_cons_zero, List.getElem_cons_succ, List.setIfInBounds_toArray, List.set_cons_zero, List.set_cons_succ])
  refine wpAnyH_ready (rs := [1, 3]) (by kernel_rfl) (by simp) ?_
  refine (AllReadyH.cons rfl (fun K hK => ?_) (AllReadyH.cons rfl (fun K hK => ?_) AllReadyH.nil))
  · go_simp
    refine hK.out _ _ trivial (fun hHeld => ?_)
    clear hK K
    (try simp only [Act.put, List.getElem_toArray, List.getElem_cons_zero, List.getElem_cons_succ, List.setIfInBounds_toArray, List.set_cons_zero, List.set_cons_succ])
    refine wpAnyH_ready (rs := [3]) (by kernel_rfl) (by simp) ?_
    refine (AllReadyH.cons rfl (fun K hK => ?_) AllReadyH.nil)
    · go_simp
      refine hK.out _ _ trivial (fun hHeld => ?_)
      clear hK K
      (try simp only [Act.put, List.getElem_toArray, List.getElem_cons_zero, List.getElem_cons_succ, List.setIfInBounds_toArray, List.set_cons_zero, List.set_cons_succ])
      refine wpAnyH_ready (rs := [4]) (by kernel_rfl) (by simp) ?_
      refine (AllReadyH.cons rfl (fun K hK => ?_) AllReadyH.nil)
      · go_simp
        refine (sumUpTo_any q 1 _ (by omega)).mono ?_
        rintro r w1 ⟨rfl, hb1⟩
        have hB1 := hB0.trans (hb1.mono hB0.size)
        have hA1 : w1.cell? ⟨A, 1, none⟩ = some (.int .i64 y) := (hB1.cell (p := ⟨A, 1, none⟩) hAl).trans hA9
        go_wp2_with fail
        refine hK.out _ _ trivial (fun hHeld => ?_)
        clear hK K
        refine wpAnyH_take (i := 5) (v := .int .i64 (max y (upTo2 q 1) : Nat)) rfl (by kernel_rfl) (by kernel_rfl) (by kernel_rfl) (fun _ _ _ h => ⟨h.1, hp _ _ _ _ _ h.2⟩) (Or.inl ⟨by rfl, ?_⟩) (by trivial) ?_
        · intro w hSw
          (go_simp; split <;> omega)
        (try simp only [Act.put, List.getElem_toArray, List.getElem_cons_zero, List.getElem_cons_succ, List.setIfInBounds_toArray, List.set_cons_zero, List.set_cons_succ])
        have hB2 := hB1
        generalize w1 = w2 at *
        have hA2 : w2.cell? ⟨A, 1, none⟩ = some (.int .i64 y) := (hB2.cell (p := ⟨A, 1, none⟩) hAl).trans hA9
        have hz2 := ((HRA.out.below hB2 hAl) 1 _ rfl).2
        clear hA9 hC9
        refine wpAnyH_take (i := 6) (v := .pointer (some ⟨A, 1, none⟩)) rfl (by kernel_rfl) (by kernel_rfl) (by kernel_rfl) (fun _ _ _ h => ⟨h.1, hp _ _ _ _ _ h.2⟩) (Or.inl ⟨by rfl, ?_⟩) (by trivial) ?_
        · intro w hSw
          go_simp
        (try simp only [Act.put, List.getElem_toArray, List.getElem_cons_zero, List.getElem_cons_succ, List.setIfInBounds_toArray, List.set_cons_zero, List.set_cons_succ])
        refine wpAnyH_ready (rs := [7]) (by kernel_rfl) (by simp) ?_
        refine (AllReadyH.cons rfl (fun K hK => ?_) AllReadyH.nil)
        · go_simp
          refine hK.out _ _ trivial (fun hHeld => ?_)
          refine wpAnyH_done (by kernel_rfl) ?_ _
          exact ⟨(fun e => by cases e), h _ w2 _ _ _ _ _ _ _ hB2 rfl⟩
  · go_simp
    refine hK.out _ _ trivial (fun hHeld => ?_)
    clear hK K
    (try simp only [Act.put, List.getElem_toArray, List.getElem_cons_zero, List.getElem_cons_succ, List.setIfInBounds_toArray, List.set_cons_zero, List.set_cons_succ])
    refine wpAnyH_ready (rs := [1, 4]) (by kernel_rfl) (by simp) ?_
    refine (AllReadyH.cons rfl (fun K hK => ?_) (AllReadyH.cons rfl (fun K hK => ?_) AllReadyH.nil))
    · go_simp
      refine hK.out _ _ trivial (fun hHeld => ?_)
      clear hK K
      (try simp only [Act.put, List.getElem_toArray, List.getElem_cons_zero, List.getElem_cons_succ, List.setIfInBounds_toArray, List.set_cons_zero, List.set_cons_succ])
      refine wpAnyH_ready (rs := [4]) (by kernel_rfl) (by simp) ?_
      refine (AllReadyH.cons rfl (fun K hK => ?_) AllReadyH.nil)
      · go_simp
        refine (sumUpTo_any q 1 _ (by omega)).mono ?_
        rintro r w1 ⟨rfl, hb1⟩
        have hB1 := hB0.trans (hb1.mono hB0.size)
        have hA1 : w1.cell? ⟨A, 1, none⟩ = some (.int .i64 y) := (hB1.cell (p := ⟨A, 1, none⟩) hAl).trans hA9
        go_wp2_with fail
        refine hK.out _ _ trivial (fun hHeld => ?_)
        clear hK K
        refine wpAnyH_take (i := 5) (v := .int .i64 (max y (upTo2 q 1) : Nat)) rfl (by kernel_rfl) (by kernel_rfl) (by kernel_rfl) (fun _ _ _ h => ⟨h.1, hp _ _ _ _ _ h.2⟩) (Or.inl ⟨by rfl, ?_⟩) (by trivial) ?_
        · intro w hSw
          (go_simp; split <;> omega)
        (try simp only [Act.put, List.getElem_toArray, List.getElem_cons_zero, List.getElem_cons_succ, List.setIfInBounds_toArray, List.set_cons_zero, List.set_cons_succ])
        have hB2 := hB1
        generalize w1 = w2 at *
        have hA2 : w2.cell? ⟨A, 1, none⟩ = some (.int .i64 y) := (hB2.cell (p := ⟨A, 1, none⟩) hAl).trans hA9
        have hz2 := ((HRA.out.below hB2 hAl) 1 _ rfl).2
        clear hA9 hC9
        refine wpAnyH_take (i := 6) (v := .pointer (some ⟨A, 1, none⟩)) rfl (by kernel_rfl) (by kernel_rfl) (by kernel_rfl) (fun _ _ _ h => ⟨h.1, hp _ _ _ _ _ h.2⟩) (Or.inl ⟨by rfl, ?_⟩) (by trivial) ?_
        · intro w hSw
          go_simp
        (try simp only [Act.put, List.getElem_toArray, List.getElem_cons_zero, List.getElem_cons_succ, List.setIfInBounds_toArray, List.set_cons_zero, List.set_cons_succ])
        refine wpAnyH_ready (rs := [7]) (by kernel_rfl) (by simp) ?_
        refine (AllReadyH.cons rfl (fun K hK => ?_) AllReadyH.nil)
        · go_simp
          refine hK.out _ _ trivial (fun hHeld => ?_)
          refine wpAnyH_done (by kernel_rfl) ?_ _
          exact ⟨(fun e => by cases e), h _ w2 _ _ _ _ _ _ _ hB2 rfl⟩
    · go_simp
      refine (sumUpTo_any q 1 _ (by omega)).mono ?_
      rintro r w1 ⟨rfl, hb1⟩
      have hB1 := hB0.trans (hb1.mono hB0.size)
      have hA1 : w1.cell? ⟨A, 1, none⟩ = some (.int .i64 y) := (hB1.cell (p := ⟨A, 1, none⟩) hAl).trans hA9
      go_wp2_with fail
      refine hK.out _ _ trivial (fun hHeld => ?_)
      clear hK K
      refine wpAnyH_ready (rs := [1]) (by kernel_rfl) (by simp) ?_
      refine (AllReadyH.cons rfl (fun K hK => ?_) AllReadyH.nil)
      · go_simp
        refine hK.out _ _ trivial (fun hHeld => ?_)
        clear hK K
        (try simp only [Act.put, List.getElem_toArray, List.getElem_cons_zero, List.getElem_cons_succ, List.setIfInBounds_toArray, List.set_cons_zero, List.set_cons_succ])
        refine wpAnyH_take (i := 5) (v := .int .i64 (max y (upTo2 q 1) : Nat)) rfl (by kernel_rfl) (by kernel_rfl) (by kernel_rfl) (fun _ _ _ h => ⟨h.1, hp _ _ _ _ _ h.2⟩) (Or.inl ⟨by rfl, ?_⟩) (by trivial) ?_
        · intro w hSw
          (go_simp; split <;> omega)
        (try simp only [Act.put, List.getElem_toArray, List.getElem_cons_zero, List.getElem_cons_succ, List.setIfInBounds_toArray, List.set_cons_zero, List.set_cons_succ])
        have hB2 := hB1
        generalize w1 = w2 at *
        have hA2 : w2.cell? ⟨A, 1, none⟩ = some (.int .i64 y) := (hB2.cell (p := ⟨A, 1, none⟩) hAl).trans hA9
        have hz2 := ((HRA.out.below hB2 hAl) 1 _ rfl).2
        clear hA9 hC9
        refine wpAnyH_take (i := 6) (v := .pointer (some ⟨A, 1, none⟩)) rfl (by kernel_rfl) (by kernel_rfl) (by kernel_rfl) (fun _ _ _ h => ⟨h.1, hp _ _ _ _ _ h.2⟩) (Or.inl ⟨by rfl, ?_⟩) (by trivial) ?_
        · intro w hSw
          go_simp
        (try simp only [Act.put, List.getElem_toArray, List.getElem_cons_zero, List.getElem_cons_succ, List.setIfInBounds_toArray, List.set_cons_zero, List.set_cons_succ])
        refine wpAnyH_ready (rs := [7]) (by kernel_rfl) (by simp) ?_
        refine (AllReadyH.cons rfl (fun K hK => ?_) AllReadyH.nil)
        · go_simp
          refine hK.out _ _ trivial (fun hHeld => ?_)
          refine wpAnyH_done (by kernel_rfl) ?_ _
          exact ⟨(fun e => by cases e), h _ w2 _ _ _ _ _ _ _ hB2 rfl⟩
end Go.Proofs.Ytapdlnakbpociaa
