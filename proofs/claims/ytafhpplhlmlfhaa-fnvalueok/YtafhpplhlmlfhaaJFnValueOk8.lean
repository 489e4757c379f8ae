/- My own texts, joined: Yg Yh Yi Yj Yk Yl. -/
import Derived.Test.YtafhpplhlmlfhaaJFnValueOk7
/- How many values a value has, by the program: regions of a round. -/
namespace Go.Proofs.Ytafhpplhlmlfhaa
open Go.RowKit
def noDefer (ops : Array Oper) : Bool := ops.all fun o => match o.op with | .defer _ => false | _ => true
theorem noDefer_is {ops : Array Oper} (h : noDefer ops = true) : ∀ (i : Nat) (o : Oper), ops[i]? = some o → ∀ c, o.op ≠ .defer c := by
  intro i o ho c e
  obtain ⟨hi, rfl⟩ := Array.getElem?_eq_some_iff.1 ho
  have := (Array.all_eq_true.1 h) i hi
  rw [e] at this
  cases this
theorem wpIn_region_round2 {P : Program} {ops : Array Oper} {Q : Exit → Act → World → Prop} {n l : Nat} {S : World → Prop} {id : Nat} {a : Act} {w : World} (hd : noDefer ops = true) (hm : P.follows .mixedOrders = true) (hS : S w.drew)
    (h : S w.drew → wpAnyH P .any ops (fun e a w => e ≠ .outgrown ∧ Q e a w) S ops.size (Array.replicate ops.size false) a w.drew) : (Code.region id ops true).wpIn (Fence.wide.inRound l) n P Q a w :=
  wpIn_mono (wpIn_region_round (noDefer_is hd) (fun ⟨_, _, h⟩ => h.1 rfl) hm hS h) (fun _ _ _ h => h.2)
theorem max_cast (x y : Nat) : ((max x y : Nat) : Int) = max (x : Int) (y : Int) := by omega
theorem upTo2_le (x y : Nat) : upTo2 x y ≤ 9223372036854775807 := by unfold upTo2; split <;> omega
set_option maxRecDepth 100000 in
set_option maxHeartbeats 1000000 in
theorem ex11 {Q : Exit → Act → World → Prop} {l n : Nat} {t0 t1 t2 t3 t4 t6 t7 t9 t10 t11 t12 t13 t14 t15 t16 t17 t18 t19 t20 t21 t22 t23 t24 t25 t26 t27 t28 t29 t30 t31 t32 t33 t34 t35 t36 t37 t38 t39 t40 t41 t42 t43 t44 t45 t46 t47 t48 t49 t50 t51 t52 t53 t54 t55 t56 t57 t58 t59 t60 t61 t62 t63 t64 : Value} {W : World} {A C x y p q : Nat}
    (RA : Row W A [.int .i64 x, .int .i64 y]) (RC : Row W C [.int .i64 p, .int .i64 q])
    (hp : ∀ p d v a w, Q (.panic p) (Act.put a d v) w → Q (.panic p) a w) (h : ∀ ws w9 v33 v34 v35 v36 v37 v38 v39, Below W.heap.size W w9 → ws = w9.setCell ⟨A, 0, none⟩ (.int .i64 (upTo2 x (upTo2 p 1) : Nat)) → Q .normal { tmps := (t0 :: t1 :: t2 :: t3 :: t4 :: (.pointer (some ⟨A, 0, none⟩)) :: t6 :: t7 :: (.pointer (some ⟨C, 0, none⟩)) :: t9 :: t10 :: t11 :: t12 :: t13 :: t14 :: t15 :: t16 :: t17 :: t18 :: t19 :: t20 :: t21 :: t22 :: t23 :: t24 :: t25 :: t26 :: t27 :: t28 :: t29 :: t30 :: t31 :: t32 :: v33 :: v34 :: v35 :: v36 :: v37 :: v38 :: v39 :: t40 :: t41 :: t42 :: t43 :: t44 :: t45 :: t46 :: t47 :: t48 :: t49 :: t50 :: t51 :: t52 :: t53 :: t54 :: t55 :: t56 :: t57 :: t58 :: t59 :: t60 :: t61 :: t62 :: t63 :: t64 :: []).toArray, defers := [] } ws) :
    Code.wpIn (Fence.wide.inRound l) n Try.prog (Code.region 11 #[{ dst := some 33, op := Op.fieldAddr 49 (Operand.tmp 5) 0, type := 0, pos := "l3_tree.go:302", after := #[], guard := none }, { dst := some 34, op := Op.load 3 (Operand.tmp 33), type := 3, pos := "l3_tree.go:302", after := #[{ on := 0, ground := Ground.data }], guard := none }, { dst := some 35, op := Op.fieldAddr 49 (Operand.tmp 8) 0, type := 0, pos := "l3_tree.go:302", after := #[], guard := none }, { dst := some 36, op := Op.load 3 (Operand.tmp 35), type := 3, pos := "l3_tree.go:302", after := #[{ on := 2, ground := Ground.data }], guard := none }, { dst := some 37, op := Op.call { callee := Callee.value (Operand.func 52), args := #[Operand.tmp 36, Operand.const (Value.int IntKind.i64 1)], argTypes := #[3, 3] }, type := 3, pos := "l3_tree.go:302", after := #[{ on := 3, ground := Ground.data }], guard := none }, { dst := some 38, op := Op.call { callee := Callee.value (Operand.func 52), args := #[Operand.tmp 34, Operand.tmp 37], argTypes := #[3, 3] }, type := 3, pos := "l3_tree.go:302", after := #[{ on := 1, ground := Ground.data }, { on := 4, ground := Ground.data }, { on := 4, ground := Ground.chain }], guard := none }, { dst := some 39, op := Op.fieldAddr 49 (Operand.tmp 5) 0, type := 0, pos := "l3_tree.go:302", after := #[{ on := 0, ground := Ground.phase }, { on := 1, ground := Ground.phase }, { on := 2, ground := Ground.phase }, { on := 3, ground := Ground.phase }, { on := 4, ground := Ground.phase }, { on := 5, ground := Ground.phase }], guard := none }, { dst := none, op := Op.store 3 (Operand.tmp 39) (Operand.tmp 38), type := 0, pos := "l3_tree.go:302", after := #[{ on := 6, ground := Ground.data }, { on := 5, ground := Ground.data }, { on := 5, ground := Ground.chain }, { on := 0, ground := Ground.phase }, { on := 1, ground := Ground.phase }, { on := 2, ground := Ground.phase }, { on := 3, ground := Ground.phase }, { on := 4, ground := Ground.phase }, { on := 5, ground := Ground.phase }], guard := none }] true) Q { tmps := (t0 :: t1 :: t2 :: t3 :: t4 :: (.pointer (some ⟨A, 0, none⟩)) :: t6 :: t7 :: (.pointer (some ⟨C, 0, none⟩)) :: t9 :: t10 :: t11 :: t12 :: t13 :: t14 :: t15 :: t16 :: t17 :: t18 :: t19 :: t20 :: t21 :: t22 :: t23 :: t24 :: t25 :: t26 :: t27 :: t28 :: t29 :: t30 :: t31 :: t32 :: t33 :: t34 :: t35 :: t36 :: t37 :: t38 :: t39 :: t40 :: t41 :: t42 :: t43 :: t44 :: t45 :: t46 :: t47 :: t48 :: t49 :: t50 :: t51 :: t52 :: t53 :: t54 :: t55 :: t56 :: t57 :: t58 :: t59 :: t60 :: t61 :: t62 :: t63 :: t64 :: []).toArray, defers := [] } W := by
  have hA := (RA 0 _ rfl).1
  have hC := (RC 0 _ rfl).1
  have HRA : Hid (Row W A [.int .i64 x, .int .i64 y]) := RA
  have hA9 : W.drew.cell? ⟨A, 0, none⟩ = some (.int .i64 x) := hA
  have hC9 : W.drew.cell? ⟨C, 0, none⟩ = some (.int .i64 p) := hC
  have hAl := World.block_lt_of_cell? _ _ hA
  have hB0 := (Below.refl W.heap.size W).drew
  clear hA hC RA RC
  refine wpIn_region_round2 (S := fun _ => True) (by kernel_rfl) (by kernel_rfl) trivial (fun hHeld => ?_)
  refine wpAnyH_take (i := 0) (v := .pointer (some ⟨A, 0, none⟩)) rfl (by kernel_rfl) (by kernel_rfl) (by kernel_rfl) (fun _ _ _ h => ⟨h.1, hp _ _ _ _ _ h.2⟩) (Or.inl ⟨by rfl, ?_⟩) (by trivial) ?_
  · intro w hSw
    go_simp
  (try simp only [Act.put, List.getElem_toArray, List.getElem_cons_zero, List.setIfInBounds_toArray, List.set_cons_zero, List.set_cons_succ])
  refine wpAnyH_take (i := 2) (v := .pointer (some ⟨C, 0, none⟩)) rfl (by kernel_rfl) (by kernel_rfl) (by kernel_rfl) (fun _ _ _ h => ⟨h.1, hp _ _ _ _ _ h.2⟩) (Or.inl ⟨by rfl, ?_⟩) (by trivial) ?_
  · intro w hSw
    go_simp
  (try simp only [Act.put, List.getElem_toArray, List.getElem_cons_zero, List.getElem_cons_succ, List.setIfInBounds_toArray, List.set_cons_zero, List.set_cons_succ])
  refine wpAnyH_ready (rs := [1, 3]) (by kernel_rfl) (by simp) ?_
  refine (AllReadyH.cons rfl (fun K hK => ?_) (AllReadyH.cons rfl (fun K hK => ?_) AllReadyH.nil))
  · go_simp
    refine hK.out _ _ trivial (fun hHeld => ?_)
    clear hK K
    (try simp only [Act.put, List.getElem_toArray, List.getElem_cons_zero, List.getElem_cons_succ, List.setIfInBounds_toArray, List.set_cons_zero, List.set_cons_succ])
    refine wpAnyH_ready (rs := [3]) (by kernel_rfl) (by simp) ?_
    refine (AllReadyH.cons rfl (fun K hK => ?_) AllReadyH.nil)
    · go_simp
      refine hK.out _ _ trivial (fun hHeld => ?_)
      clear hK K
      (try simp only [Act.put, List.getElem_toArray, List.getElem_cons_zero, List.getElem_cons_succ, List.setIfInBounds_toArray, List.set_cons_zero, List.set_cons_succ])
      refine wpAnyH_ready (rs := [4]) (by kernel_rfl) (by simp) ?_
      refine (AllReadyH.cons rfl (fun K hK => ?_) AllReadyH.nil)
      · go_simp
        refine (sumUpTo_any p 1 _ (by omega)).mono ?_
        rintro r w1 ⟨rfl, hb1⟩
        have hB1 := hB0.trans (hb1.mono hB0.size)
        have hA1 : w1.cell? ⟨A, 0, none⟩ = some (.int .i64 x) := (hB1.cell (p := ⟨A, 0, none⟩) hAl).trans hA9
        go_wp2_with fail
        refine hK.out _ _ trivial (fun hHeld => ?_)
        clear hK K
        refine wpAnyH_ready (rs := [5]) (by kernel_rfl) (by simp) ?_
        refine (AllReadyH.cons rfl (fun K hK => ?_) AllReadyH.nil)
        · go_simp
          refine (sumUpTo_any x (upTo2 p 1) _ (upTo2_le _ _)).mono ?_
          rintro r w2 ⟨rfl, hb2⟩
          have hB2 := hB1.trans (hb2.mono hB1.size)
          go_wp2_with fail
          refine hK.out _ _ trivial (fun hHeld => ?_)
          clear hK K
          have hA2 : w2.cell? ⟨A, 0, none⟩ = some (.int .i64 x) := (hB2.cell (p := ⟨A, 0, none⟩) hAl).trans hA9
          have hz2 := ((HRA.out.below hB2 hAl) 0 _ rfl).2
          clear hA9 hC9
          refine wpAnyH_take (i := 6) (v := .pointer (some ⟨A, 0, none⟩)) rfl (by kernel_rfl) (by kernel_rfl) (by kernel_rfl) (fun _ _ _ h => ⟨h.1, hp _ _ _ _ _ h.2⟩) (Or.inl ⟨by rfl, ?_⟩) (by trivial) ?_
          · intro w hSw
            go_simp
          (try simp only [Act.put, List.getElem_toArray, List.getElem_cons_zero, List.getElem_cons_succ, List.setIfInBounds_toArray, List.set_cons_zero, List.set_cons_succ])
          refine wpAnyH_ready (rs := [7]) (by kernel_rfl) (by simp) ?_
          refine (AllReadyH.cons rfl (fun K hK => ?_) AllReadyH.nil)
          · go_simp
            refine hK.out _ _ trivial (fun hHeld => ?_)
            refine wpAnyH_done (by kernel_rfl) ?_ _
            exact ⟨(fun e => by cases e), h _ w2 _ _ _ _ _ _ _ hB2 rfl⟩
  · go_simp
    refine hK.out _ _ trivial (fun hHeld => ?_)
    clear hK K
    (try simp only [Act.put, List.getElem_toArray, List.getElem_cons_zero, List.getElem_cons_succ, List.setIfInBounds_toArray, List.set_cons_zero, List.set_cons_succ])
    refine wpAnyH_ready (rs := [1, 4]) (by kernel_rfl) (by simp) ?_
    refine (AllReadyH.cons rfl (fun K hK => ?_) (AllReadyH.cons rfl (fun K hK => ?_) AllReadyH.nil))
    · go_simp
      refine hK.out _ _ trivial (fun hHeld => ?_)
      clear hK K
      (try simp only [Act.put, List.getElem_toArray, List.getElem_cons_zero, List.getElem_cons_succ, List.setIfInBounds_toArray, List.set_cons_zero, List.set_cons_succ])
      refine wpAnyH_ready (rs := [4]) (by kernel_rfl) (by simp) ?_
      refine (AllReadyH.cons rfl (fun K hK => ?_) AllReadyH.nil)
      · go_simp
        refine (sumUpTo_any p 1 _ (by omega)).mono ?_
        rintro r w1 ⟨rfl, hb1⟩
        have hB1 := hB0.trans (hb1.mono hB0.size)
        have hA1 : w1.cell? ⟨A, 0, none⟩ = some (.int .i64 x) := (hB1.cell (p := ⟨A, 0, none⟩) hAl).trans hA9
        go_wp2_with fail
        refine hK.out _ _ trivial (fun hHeld => ?_)
        clear hK K
        refine wpAnyH_ready (rs := [5]) (by kernel_rfl) (by simp) ?_
        refine (AllReadyH.cons rfl (fun K hK => ?_) AllReadyH.nil)
        · go_simp
          refine (sumUpTo_any x (upTo2 p 1) _ (upTo2_le _ _)).mono ?_
          rintro r w2 ⟨rfl, hb2⟩
          have hB2 := hB1.trans (hb2.mono hB1.size)
          go_wp2_with fail
          refine hK.out _ _ trivial (fun hHeld => ?_)
          clear hK K
          have hA2 : w2.cell? ⟨A, 0, none⟩ = some (.int .i64 x) := (hB2.cell (p := ⟨A, 0, none⟩) hAl).trans hA9
          have hz2 := ((HRA.out.below hB2 hAl) 0 _ rfl).2
          clear hA9 hC9
          refine wpAnyH_take (i := 6) (v := .pointer (some ⟨A, 0, none⟩)) rfl (by kernel_rfl) (by kernel_rfl) (by kernel_rfl) (fun _ _ _ h => ⟨h.1, hp _ _ _ _ _ h.2⟩) (Or.inl ⟨by rfl, ?_⟩) (by trivial) ?_
          · intro w hSw
            go_simp
          (try simp only [Act.put, List.getElem_toArray, List.getElem_cons_zero, List.getElem_cons_succ, List.setIfInBounds_toArray, List.set_cons_zero, List.set_cons_succ])
          refine wpAnyH_ready (rs := [7]) (by kernel_rfl) (by simp) ?_
          refine (AllReadyH.cons rfl (fun K hK => ?_) AllReadyH.nil)
          · go_simp
            refine hK.out _ _ trivial (fun hHeld => ?_)
            refine wpAnyH_done (by kernel_rfl) ?_ _
            exact ⟨(fun e => by cases e), h _ w2 _ _ _ _ _ _ _ hB2 rfl⟩
    · go_simp
      refine (sumUpTo_any p 1 _ (by omega)).mono ?_
      rintro r w1 ⟨rfl, hb1⟩
      have hB1 := hB0.trans (hb1.mono hB0.size)
      have hA1 : w1.cell? ⟨A, 0, none⟩ = some (.int .i64 x) := (hB1.cell (p := ⟨A, 0, none⟩) hAl).trans hA9
      go_wp2_with fail
      refine hK.out _ _ trivial (fun hHeld => ?_)
      clear hK K
      refine wpAnyH_ready (rs := [1]) (by kernel_rfl) (by simp) ?_
      refine (AllReadyH.cons rfl (fun K hK => ?_) AllReadyH.nil)
      · go_simp
        refine hK.out _ _ trivial (fun hHeld => ?_)
        clear hK K
        (try simp only [Act.put, List.getElem_toArray, List.getElem_cons_zero, List.getElem_cons_succ, List.setIfInBounds_toArray, List.set_cons_zero, List.set_cons_succ])
        refine wpAnyH_ready (rs := [5]) (by kernel_rfl) (by simp) ?_
        refine (AllReadyH.cons rfl (fun K hK => ?_) AllReadyH.nil)
        · go_simp
          refine (sumUpTo_any x (upTo2 p 1) _ (upTo2_le _ _)).mono ?_
          rintro r w2 ⟨rfl, hb2⟩
          have hB2 := hB1.trans (hb2.mono hB1.size)
          go_wp2_with fail
          refine hK.out _ _ trivial (fun hHeld => ?_)
          clear hK K
          have hA2 : w2.cell? ⟨A, 0, none⟩ = some (.int .i64 x) := (hB2.cell (p := ⟨A, 0, none⟩) hAl).trans hA9
          have hz2 := ((HRA.out.below hB2 hAl) 0 _ rfl).2
          clear hA9 hC9
          refine wpAnyH_take (i := 6) (v := .pointer (some ⟨A, 0, none⟩)) rfl (by kernel_rfl) (by kernel_rfl) (by kernel_rfl) (fun _ _ _ h => ⟨h.1, hp _ _ _ _ _ h.2⟩) (Or.inl ⟨by rfl, ?_⟩) (by trivial) ?_
          · intro w hSw
            go_simp
          (try simp only [Act.put, List.getElem_toArray, List.getElem_cons_zero, List.getElem_cons_succ, List.setIfInBounds_toArray, List.set_cons_zero, List.set_cons_succ])
          refine wpAnyH_ready (rs := [7]) (by kernel_rfl) (by simp) ?_
          refine (AllReadyH.cons rfl (fun K hK => ?_) AllReadyH.nil)
          · go_simp
            refine hK.out _ _ trivial (fun hHeld => ?_)
            refine wpAnyH_done (by kernel_rfl) ?_ _
            exact ⟨(fun e => by cases e), h _ w2 _ _ _ _ _ _ _ hB2 rfl⟩
set_option maxRecDepth 100000 in
set_option maxHeartbeats 1000000 in
theorem ex12 {Q : Exit → Act → World → Prop} {l n : Nat} {t0 t1 t2 t3 t4 t6 t7 t9 t10 t11 t12 t13 t14 t15 t16 t17 t18 t19 t20 t21 t22 t23 t24 t25 t26 t27 t28 t29 t30 t31 t32 t33 t34 t35 t36 t37 t38 t39 t40 t41 t42 t43 t44 t45 t46 t47 t48 t49 t50 t51 t52 t53 t54 t55 t56 t57 t58 t59 t60 t61 t62 t63 t64 : Value} {W : World} {A C x y p q : Nat}
    (RA : Row W A [.int .i64 x, .int .i64 y]) (RC : Row W C [.int .i64 p, .int .i64 q])
    (hp : ∀ p d v a w, Q (.panic p) (Act.put a d v) w → Q (.panic p) a w) (h : ∀ ws w9 v40 v41 v42 v43 v44 v45 v46, Below W.heap.size W w9 → ws = w9.setCell ⟨A, 1, none⟩ (.int .i64 (max y (upTo2 q 1) : Nat)) → Q .normal { tmps := (t0 :: t1 :: t2 :: t3 :: t4 :: (.pointer (some ⟨A, 0, none⟩)) :: t6 :: t7 :: (.pointer (some ⟨C, 0, none⟩)) :: t9 :: t10 :: t11 :: t12 :: t13 :: t14 :: t15 :: t16 :: t17 :: t18 :: t19 :: t20 :: t21 :: t22 :: t23 :: t24 :: t25 :: t26 :: t27 :: t28 :: t29 :: t30 :: t31 :: t32 :: t33 :: t34 :: t35 :: t36 :: t37 :: t38 :: t39 :: v40 :: v41 :: v42 :: v43 :: v44 :: v45 :: v46 :: t47 :: t48 :: t49 :: t50 :: t51 :: t52 :: t53 :: t54 :: t55 :: t56 :: t57 :: t58 :: t59 :: t60 :: t61 :: t62 :: t63 :: t64 :: []).toArray, defers := [] } ws) :
    Code.wpIn (Fence.wide.inRound l) n Try.prog (Code.region 12 #[{ dst := some 40, op := Op.fieldAddr 49 (Operand.tmp 5) 1, type := 0, pos := "l3_tree.go:303", after := #[], guard := none }, { dst := some 41, op := Op.load 3 (Operand.tmp 40), type := 3, pos := "l3_tree.go:303", after := #[{ on := 0, ground := Ground.data }], guard := none }, { dst := some 42, op := Op.fieldAddr 49 (Operand.tmp 8) 1, type := 0, pos := "l3_tree.go:303", after := #[], guard := none }, { dst := some 43, op := Op.load 3 (Operand.tmp 42), type := 3, pos := "l3_tree.go:303", after := #[{ on := 2, ground := Ground.data }], guard := none }, { dst := some 44, op := Op.call { callee := Callee.value (Operand.func 52), args := #[Operand.tmp 43, Operand.const (Value.int IntKind.i64 1)], argTypes := #[3, 3] }, type := 3, pos := "l3_tree.go:303", after := #[{ on := 3, ground := Ground.data }], guard := none }, { dst := some 45, op := Op.call { callee := Callee.builtin Builtin.max, args := #[Operand.tmp 41, Operand.tmp 44], argTypes := #[3, 3] }, type := 3, pos := "l3_tree.go:303", after := #[{ on := 1, ground := Ground.data }, { on := 4, ground := Ground.data }], guard := none }, { dst := some 46, op := Op.fieldAddr 49 (Operand.tmp 5) 1, type := 0, pos := "l3_tree.go:303", after := #[{ on := 0, ground := Ground.phase }, { on := 1, ground := Ground.phase }, { on := 2, ground := Ground.phase }, { on := 3, ground := Ground.phase }, { on := 4, ground := Ground.phase }, { on := 5, ground := Ground.phase }], guard := none }, { dst := none, op := Op.store 3 (Operand.tmp 46) (Operand.tmp 45), type := 0, pos := "l3_tree.go:303", after := #[{ on := 6, ground := Ground.data }, { on := 5, ground := Ground.data }, { on := 4, ground := Ground.chain }, { on := 0, ground := Ground.phase }, { on := 1, ground := Ground.phase }, { on := 2, ground := Ground.phase }, { on := 3, ground := Ground.phase }, { on := 4, ground := Ground.phase }, { on := 5, ground := Ground.phase }], guard := none }] true) Q { tmps := (t0 :: t1 :: t2 :: t3 :: t4 :: (.pointer (some ⟨A, 0, none⟩)) :: t6 :: t7 :: (.pointer (some ⟨C, 0, none⟩)) :: t9 :: t10 :: t11 :: t12 :: t13 :: t14 :: t15 :: t16 :: t17 :: t18 :: t19 :: t20 :: t21 :: t22 :: t23 :: t24 :: t25 :: t26 :: t27 :: t28 :: t29 :: t30 :: t31 :: t32 :: t33 :: t34 :: t35 :: t36 :: t37 :: t38 :: t39 :: t40 :: t41 :: t42 :: t43 :: t44 :: t45 :: t46 :: t47 :: t48 :: t49 :: t50 :: t51 :: t52 :: t53 :: t54 :: t55 :: t56 :: t57 :: t58 :: t59 :: t60 :: t61 :: t62 :: t63 :: t64 :: []).toArray, defers := [] } W := by
  have hA := (RA 1 _ rfl).1
  have hC := (RC 1 _ rfl).1
  have HRA : Hid (Row W A [.int .i64 x, .int .i64 y]) := RA
  have hA9 : W.drew.cell? ⟨A, 1, none⟩ = some (.int .i64 y) := hA
  have hC9 : W.drew.cell? ⟨C, 1, none⟩ = some (.int .i64 q) := hC
  have hAl := World.block_lt_of_cell? _ _ hA
  have hB0 := (Below.refl W.heap.size W).drew
  clear hA hC RA RC
  refine wpIn_region_round2 (S := fun _ => True) (by kernel_rfl) (by kernel_rfl) trivial (fun hHeld => ?_)
  refine wpAnyH_take (i := 0) (v := .pointer (some ⟨A, 1, none⟩)) rfl (by kernel_rfl) (by kernel_rfl) (by kernel_rfl) (fun _ _ _ h => ⟨h.1, hp _ _ _ _ _ h.2⟩) (Or.inl ⟨by rfl, ?_⟩) (by trivial) ?_
  · intro w hSw
    go_simp
  (try simp only [Act.put, List.getElem_toArray, List.getElem_cons_zero, List.setIfInBounds_toArray, List.set_cons_zero, List.set_cons_succ])
  refine wpAnyH_take (i := 2) (v := .pointer (some ⟨C, 1, none⟩)) rfl (by kernel_rfl) (by kernel_rfl) (by kernel_rfl) (fun _ _ _ h => ⟨h.1, hp _ _ _ _ _ h.2⟩) (Or.inl ⟨by rfl, ?_⟩) (by trivial) ?_
  · intro w hSw
    go_simp
  (try simp only [Act.put, List.getElem_toArray, List.getElem_cons_zero, List.getElem_cons_succ, List.setIfInBounds_toArray, List.set_cons_zero, List.set_cons_succ])
  refine wpAnyH_ready (rs := [1, 3]) (by kernel_rfl) (by simp) ?_
  refine (AllReadyH.cons rfl (fun K hK => ?_) (AllReadyH.cons rfl (fun K hK => ?_) AllReadyH.nil))
  · go_simp
    refine hK.out _ _ trivial (fun hHeld => ?_)
    clear hK K
    (try simp only [Act.put, List.getElem_toArray, List.getElem_cons_zero, List.getElem_cons_succ, List.setIfInBounds_toArray, List.set_cons_zero, List.set_cons_succ])
    refine wpAnyH_ready (rs := [3]) (by kernel_rfl) (by simp) ?_
    refine (AllReadyH.cons rfl (fun K hK => ?_) AllReadyH.nil)
    · go_simp
      refine hK.out _ _ trivial (fun hHeld => ?_)
      clear hK K
      (try simp only [Act.put, List.getElem_toArray, List.getElem_cons_zero, List.getElem_cons_succ, List.setIfInBounds_toArray, List.set_cons_zero, List.set_cons_succ])
      refine wpAnyH_ready (rs := [4]) (by kernel_rfl) (by simp) ?_
      refine (AllReadyH.cons rfl (fun K hK => ?_) AllReadyH.nil)
      · go_simp
        refine (sumUpTo_any q 1 _ (by omega)).mono ?_
        rintro r w1 ⟨rfl, hb1⟩
        have hB1 := hB0.trans (hb1.mono hB0.size)
        have hA1 : w1.cell? ⟨A, 1, none⟩ = some (.int .i64 y) := (hB1.cell (p := ⟨A, 1, none⟩) hAl).trans hA9
        go_wp2_with fail
        refine hK.out _ _ trivial (fun hHeld => ?_)
        clear hK K
        refine wpAnyH_take (i := 5) (v := .int .i64 (max y (upTo2 q 1) : Nat)) rfl (by kernel_rfl) (by kernel_rfl) (by kernel_rfl) (fun _ _ _ h => ⟨h.1, hp _ _ _ _ _ h.2⟩) (Or.inl ⟨by rfl, ?_⟩) (by trivial) ?_
        · intro w hSw
          (go_simp; split <;> omega)
        (try simp only [Act.put, List.getElem_toArray, List.getElem_cons_zero, List.getElem_cons_succ, List.setIfInBounds_toArray, List.set_cons_zero, List.set_cons_succ])
        have hB2 := hB1
        generalize w1 = w2 at *
        have hA2 : w2.cell? ⟨A, 1, none⟩ = some (.int .i64 y) := (hB2.cell (p := ⟨A, 1, none⟩) hAl).trans hA9
        have hz2 := ((HRA.out.below hB2 hAl) 1 _ rfl).2
        clear hA9 hC9
        refine wpAnyH_take (i := 6) (v := .pointer (some ⟨A, 1, none⟩)) rfl (by kernel_rfl) (by kernel_rfl) (by kernel_rfl) (fun _ _ _ h => ⟨h.1, hp _ _ _ _ _ h.2⟩) (Or.inl ⟨by rfl, ?_⟩) (by trivial) ?_
        · intro w hSw
          go_simp
        (try simp only [Act.put, List.getElem_toArray, List.getElem_cons_zero, List.getElem_cons_succ, List.setIfInBounds_toArray, List.set_cons_zero, List.set_cons_succ])
        refine wpAnyH_ready (rs := [7]) (by kernel_rfl) (by simp) ?_
        refine (AllReadyH.cons rfl (fun K hK => ?_) AllReadyH.nil)
        · go_simp
          refine hK.out _ _ trivial (fun hHeld => ?_)
          refine wpAnyH_done (by kernel_rfl) ?_ _
          exact ⟨(fun e => by cases e), h _ w2 _ _ _ _ _ _ _ hB2 rfl⟩
  · go_simp
    refine hK.out _ _ trivial (fun hHeld => ?_)
    clear hK K
    (try simp only [Act.put, List.getElem_toArray, List.getElem_cons_zero, List.getElem_cons_succ, List.setIfInBounds_toArray, List.set_cons_zero, List.set_cons_succ])
    refine wpAnyH_ready (rs := [1, 4]) (by kernel_rfl) (by simp) ?_
    refine (AllReadyH.cons rfl (fun K hK => ?_) (AllReadyH.cons rfl (fun K hK => ?_) AllReadyH.nil))
    · go_simp
      refine hK.out _ _ trivial (fun hHeld => ?_)
      clear hK K
      (try simp only [Act.put, List.getElem_toArray, List.getElem_cons_zero, List.getElem_cons_succ, List.setIfInBounds_toArray, List.set_cons_zero, List.set_cons_succ])
      refine wpAnyH_ready (rs := [4]) (by kernel_rfl) (by simp) ?_
      refine (AllReadyH.cons rfl (fun K hK => ?_) AllReadyH.nil)
      · go_simp
        refine (sumUpTo_any q 1 _ (by omega)).mono ?_
        rintro r w1 ⟨rfl, hb1⟩
        have hB1 := hB0.trans (hb1.mono hB0.size)
        have hA1 : w1.cell? ⟨A, 1, none⟩ = some (.int .i64 y) := (hB1.cell (p := ⟨A, 1, none⟩) hAl).trans hA9
        go_wp2_with fail
        refine hK.out _ _ trivial (fun hHeld => ?_)
        clear hK K
        refine wpAnyH_take (i := 5) (v := .int .i64 (max y (upTo2 q 1) : Nat)) rfl (by kernel_rfl) (by kernel_rfl) (by kernel_rfl) (fun _ _ _ h => ⟨h.1, hp _ _ _ _ _ h.2⟩) (Or.inl ⟨by rfl, ?_⟩) (by trivial) ?_
        · intro w hSw
          (go_simp; split <;> omega)
        (try simp only [Act.put, List.getElem_toArray, List.getElem_cons_zero, List.getElem_cons_succ, List.setIfInBounds_toArray, List.set_cons_zero, List.set_cons_succ])
        have hB2 := hB1
        generalize w1 = w2 at *
        have hA2 : w2.cell? ⟨A, 1, none⟩ = some (.int .i64 y) := (hB2.cell (p := ⟨A, 1, none⟩) hAl).trans hA9
        have hz2 := ((HRA.out.below hB2 hAl) 1 _ rfl).2
        clear hA9 hC9
        refine wpAnyH_take (i := 6) (v := .pointer (some ⟨A, 1, none⟩)) rfl (by kernel_rfl) (by kernel_rfl) (by kernel_rfl) (fun _ _ _ h => ⟨h.1, hp _ _ _ _ _ h.2⟩) (Or.inl ⟨by rfl, ?_⟩) (by trivial) ?_
        · intro w hSw
          go_simp
        (try simp only [Act.put, List.getElem_toArray, List.getElem_cons_zero, List.getElem_cons_succ, List.setIfInBounds_toArray, List.set_cons_zero, List.set_cons_succ])
        refine wpAnyH_ready (rs := [7]) (by kernel_rfl) (by simp) ?_
        refine (AllReadyH.cons rfl (fun K hK => ?_) AllReadyH.nil)
        · go_simp
          refine hK.out _ _ trivial (fun hHeld => ?_)
          refine wpAnyH_done (by kernel_rfl) ?_ _
          exact ⟨(fun e => by cases e), h _ w2 _ _ _ _ _ _ _ hB2 rfl⟩
    · go_simp
      refine (sumUpTo_any q 1 _ (by omega)).mono ?_
      rintro r w1 ⟨rfl, hb1⟩
      have hB1 := hB0.trans (hb1.mono hB0.size)
      have hA1 : w1.cell? ⟨A, 1, none⟩ = some (.int .i64 y) := (hB1.cell (p := ⟨A, 1, none⟩) hAl).trans hA9
      go_wp2_with fail
      refine hK.out _ _ trivial (fun hHeld => ?_)
      clear hK K
      refine wpAnyH_ready (rs := [1]) (by kernel_rfl) (by simp) ?_
      refine (AllReadyH.cons rfl (fun K hK => ?_) AllReadyH.nil)
      · go_simp
        refine hK.out _ _ trivial (fun hHeld => ?_)
        clear hK K
        (try simp only [Act.put, List.getElem_toArray, List.getElem_cons_zero, List.getElem_cons_succ, List.setIfInBounds_toArray, List.set_cons_zero, List.set_cons_succ])
        refine wpAnyH_take (i := 5) (v := .int .i64 (max y (upTo2 q 1) : Nat)) rfl (by kernel_rfl) (by kernel_rfl) (by kernel_rfl) (fun _ _ _ h => ⟨h.1, hp _ _ _ _ _ h.2⟩) (Or.inl ⟨by rfl, ?_⟩) (by trivial) ?_
        · intro w hSw
          (go_simp; split <;> omega)
        (try simp only [Act.put, List.getElem_toArray, List.getElem_cons_zero, List.getElem_cons_succ, List.setIfInBounds_toArray, List.set_cons_zero, List.set_cons_succ])
        have hB2 := hB1
        generalize w1 = w2 at *
        have hA2 : w2.cell? ⟨A, 1, none⟩ = some (.int .i64 y) := (hB2.cell (p := ⟨A, 1, none⟩) hAl).trans hA9
        have hz2 := ((HRA.out.below hB2 hAl) 1 _ rfl).2
        clear hA9 hC9
        refine wpAnyH_take (i := 6) (v := .pointer (some ⟨A, 1, none⟩)) rfl (by kernel_rfl) (by kernel_rfl) (by kernel_rfl) (fun _ _ _ h => ⟨h.1, hp _ _ _ _ _ h.2⟩) (Or.inl ⟨by rfl, ?_⟩) (by trivial) ?_
        · intro w hSw
          go_simp
        (try simp only [Act.put, List.getElem_toArray, List.getElem_cons_zero, List.getElem_cons_succ, List.setIfInBounds_toArray, List.set_cons_zero, List.set_cons_succ])
        refine wpAnyH_ready (rs := [7]) (by kernel_rfl) (by simp) ?_
        refine (AllReadyH.cons rfl (fun K hK => ?_) AllReadyH.nil)
        · go_simp
          refine hK.out _ _ trivial (fun hHeld => ?_)
          refine wpAnyH_done (by kernel_rfl) ?_ _
          exact ⟨(fun e => by cases e), h _ w2 _ _ _ _ _ _ _ hB2 rfl⟩
end Go.Proofs.Ytafhpplhlmlfhaa
/- How many values a value has, by the program: the region of a round that puts a list's extent into the map. -/
namespace Go.Proofs.Ytafhpplhlmlfhaa
open Go.RowKit
abbrev HeldE (kb mb A x y : Nat) (w : World) : Prop := w.cell? ⟨kb, 0, none⟩ = some (.map (some mb)) ∧ w.cell? ⟨A, 0, none⟩ = some (.int .i64 x) ∧ w.cell? ⟨A, 1, none⟩ = some (.int .i64 y)
theorem HeldE.grown {kb mb A x y : Nat} {w w' : World} (h : HeldE kb mb A x y w) {r : Option Nat} (hg : w.grownBy w' r) (h1 : some kb ≠ r) (h2 : some A ≠ r) : HeldE kb mb A x y w' := by
  have hk := World.block_lt_of_cell? _ _ h.1
  have ha := World.block_lt_of_cell? _ _ h.2.1
  exact ⟨(grown_cell hg 0 hk h1).trans h.1, (grown_cell hg 0 ha h2).trans h.2.1, (grown_cell hg 1 ha h2).trans h.2.2⟩
set_option maxRecDepth 100000 in
set_option maxHeartbeats 1000000 in
theorem ex14 {Q : Exit → Act → World → Prop} {l n : Nat} {t0 t1 t2 t6 t7 t8 t9 t10 t11 t12 t13 t14 t15 t16 t17 t18 t19 t20 t21 t22 t23 t24 t25 t26 t27 t28 t29 t30 t31 t32 t33 t34 t35 t36 t37 t38 t39 t40 t41 t42 t43 t44 t45 t46 t47 t48 t49 t50 t51 t52 t53 t54 t55 t56 t57 t58 t59 t60 t61 t62 t63 t64 : Value} {W : World} {kb mb A m c x y : Nat} {a : Option Addr} {L : List (Pl × Value)}
    (hE : HeldE kb mb A x y W) (hm : plKeysV.Is W mb L) (hok : PlOk W (plOf a m)) (hoks : ∀ q ∈ L, PlOk W q.1) (ha : m = 0 ∨ ∃ b o, a = some ⟨b, o, none⟩) (hml : m ≤ 2000000) (hk : kb ≠ mb) (hA : A ≠ mb)
    (hp : ∀ p d v a w, Q (.panic p) (Act.put a d v) w → Q (.panic p) a w) (h : ∀ ws v48 v49 v50 v51, plKeysV.Is ws mb (putL (plOf a m) (.agg #[.int .i64 x, .int .i64 y]) L) → W.grownBy ws (some mb) → Q .normal { tmps := (t0 :: t1 :: t2 :: (.pointer (some ⟨kb, 0, none⟩)) :: (.slice a m c) :: (.pointer (some ⟨A, 0, none⟩)) :: t6 :: t7 :: t8 :: t9 :: t10 :: t11 :: t12 :: t13 :: t14 :: t15 :: t16 :: t17 :: t18 :: t19 :: t20 :: t21 :: t22 :: t23 :: t24 :: t25 :: t26 :: t27 :: t28 :: t29 :: t30 :: t31 :: t32 :: t33 :: t34 :: t35 :: t36 :: t37 :: t38 :: t39 :: t40 :: t41 :: t42 :: t43 :: t44 :: t45 :: t46 :: t47 :: v48 :: v49 :: v50 :: v51 :: t52 :: t53 :: t54 :: t55 :: t56 :: t57 :: t58 :: t59 :: t60 :: t61 :: t62 :: t63 :: t64 :: []).toArray, defers := [] } ws) :
    Code.wpIn (Fence.wide.inRound l) n Try.prog (Code.region 14 #[{ dst := some 48, op := Op.load 77 (Operand.tmp 3), type := 77, pos := "l3_tree.go:305", after := #[], guard := none }, { dst := some 49, op := Op.move (Operand.tmp 4), type := 25, pos := "l3_tree.go:305", after := #[], guard := none }, { dst := some 50, op := Op.call { callee := Callee.value (Operand.func 51), args := #[Operand.tmp 49], argTypes := #[25] }, type := 84, pos := "l3_tree.go:305", after := #[{ on := 1, ground := Ground.data }], guard := none }, { dst := some 51, op := Op.load 49 (Operand.tmp 5), type := 49, pos := "l3_tree.go:305", after := #[], guard := none }, { dst := none, op := Op.mapUpdate 77 (Operand.tmp 48) (Operand.tmp 50) (Operand.tmp 51), type := 0, pos := "l3_tree.go:305", after := #[{ on := 0, ground := Ground.data }, { on := 2, ground := Ground.data }, { on := 3, ground := Ground.data }, { on := 2, ground := Ground.chain }, { on := 0, ground := Ground.phase }, { on := 1, ground := Ground.phase }, { on := 2, ground := Ground.phase }, { on := 3, ground := Ground.phase }], guard := none }] true) Q { tmps := (t0 :: t1 :: t2 :: (.pointer (some ⟨kb, 0, none⟩)) :: (.slice a m c) :: (.pointer (some ⟨A, 0, none⟩)) :: t6 :: t7 :: t8 :: t9 :: t10 :: t11 :: t12 :: t13 :: t14 :: t15 :: t16 :: t17 :: t18 :: t19 :: t20 :: t21 :: t22 :: t23 :: t24 :: t25 :: t26 :: t27 :: t28 :: t29 :: t30 :: t31 :: t32 :: t33 :: t34 :: t35 :: t36 :: t37 :: t38 :: t39 :: t40 :: t41 :: t42 :: t43 :: t44 :: t45 :: t46 :: t47 :: t48 :: t49 :: t50 :: t51 :: t52 :: t53 :: t54 :: t55 :: t56 :: t57 :: t58 :: t59 :: t60 :: t61 :: t62 :: t63 :: t64 :: []).toArray, defers := [] } W := by
  have hB0 := (Below.refl W.heap.size W).drew
  have hE0 : HeldE kb mb A x y W.drew := hE
  have HSof : Hid (∀ w', Below W.heap.size W w' → HeldE kb mb A x y w') := fun w' h => hE.grown (grown_below h) (fun e => by cases e) (fun e => by cases e)
  have hmlt : mb < W.heap.size := by obtain ⟨es, clock, h, _⟩ := hm; exact (Array.getElem?_eq_some_iff.1 h).1
  refine wpIn_region_round2 (S := fun w' => HeldE kb mb A x y w') (by kernel_rfl) (by kernel_rfl) hE0 (fun hHeld => ?_)
  clear hE hE0
  refine wpAnyH_take (i := 0) (v := .map (some mb)) rfl (by kernel_rfl) (by kernel_rfl) (by kernel_rfl) (fun _ _ _ h => ⟨h.1, hp _ _ _ _ _ h.2⟩) (Or.inl ⟨by rfl, ?_⟩) (by assumption) ?_
  · intro w hSw
    (try dsimp only at hSw)
    go_simp
  (try simp only [Act.put, List.getElem_toArray, List.getElem_cons_zero, List.setIfInBounds_toArray, List.set_cons_zero, List.set_cons_succ])
  refine wpAnyH_take (i := 1) (v := .slice a m c) rfl (by kernel_rfl) (by kernel_rfl) (by kernel_rfl) (fun _ _ _ h => ⟨h.1, hp _ _ _ _ _ h.2⟩) (Or.inl ⟨by rfl, ?_⟩) (by assumption) ?_
  · intro w hSw
    (try dsimp only at hSw)
    go_simp
  (try simp only [Act.put, List.getElem_toArray, List.getElem_cons_zero, List.getElem_cons_succ, List.setIfInBounds_toArray, List.set_cons_zero, List.set_cons_succ])
  refine wpAnyH_take (i := 3) (v := (.agg #[.int .i64 x, .int .i64 y])) rfl (by kernel_rfl) (by kernel_rfl) (by kernel_rfl) (fun _ _ _ h => ⟨h.1, hp _ _ _ _ _ h.2⟩) (Or.inl ⟨by rfl, ?_⟩) (by assumption) ?_
  · intro w hSw
    (try dsimp only at hSw)
    go_simp
  (try simp only [Act.put, List.getElem_toArray, List.getElem_cons_zero, List.getElem_cons_succ, List.setIfInBounds_toArray, List.set_cons_zero, List.set_cons_succ])
  refine wpAnyH_ready (rs := [2]) (by kernel_rfl) (by simp) ?_
  refine (AllReadyH.cons rfl (fun K hK => ?_) AllReadyH.nil)
  · go_simp
    refine (placeOfV_any a m c _ ha hml).mono ?_
    rintro r w1 ⟨rfl, hb1⟩
    have hB1 := hB0.trans (hb1.mono hB0.size)
    have hS1 := HSof.out _ hB1
    obtain ⟨ws, hput, hmS, hgr, hszs⟩ := plKeysV.put (mty := 77) (et := 49) Try.underlying77 (plOf a m) (.agg #[.int .i64 x, .int .i64 y]) (hok.below hB1) (fun q hq => (hoks q hq).below hB1) (hm.grown _ (hB1.block _ hmlt))
    have hput' : (Instr.mapUpdate 77 (.map (some mb)) (.agg #[.pointer (plOf a m).1, .int .i64 (plOf a m).2]) (.agg #[.int .i64 x, .int .i64 y])).run Try.prog w1 = .ok () ws := hput
    have HMS : Hid (plKeysV.Is ws mb (putL (plOf a m) (.agg #[.int .i64 x, .int .i64 y]) L)) := hmS
    have HG : Hid (W.grownBy ws (some mb)) := grown_trans ⟨hB1.os, hB1.tape, hB1.output, hB1.size, fun k hk _ => hB1.block k hk⟩ hgr
    have hSs : HeldE kb mb A x y ws := hS1.grown hgr (fun e => hk (Option.some.inj e)) (fun e => hA (Option.some.inj e))
    have HS1 : Hid (HeldE kb mb A x y w1) := hS1
    have HSs : Hid (HeldE kb mb A x y ws) := hSs
    clear hput hmS hgr hszs hok hoks hm hS1 hSs
    go_wp2_with fail
    refine hK.out _ _ HS1.out (fun hHeld => ?_)
    clear hK K
    unfold plV
    refine wpAnyH_ready (rs := [4]) (by kernel_rfl) (by simp) ?_
    refine (AllReadyH.cons rfl (fun K hK => ?_) AllReadyH.nil)
    · go_simp
      refine hK.out _ _ HSs.out (fun hHeld => ?_)
      clear hK K
      refine wpAnyH_done (by kernel_rfl) ?_ _
      exact ⟨(fun e => by cases e), h _ _ _ _ _ HMS.out HG.out⟩
end Go.Proofs.Ytafhpplhlmlfhaa
/- How many values a value has, by the program: the region of a round that looks a list's extent up. -/
namespace Go.Proofs.Ytafhpplhlmlfhaa
open Go.RowKit
set_option maxRecDepth 100000 in
set_option maxHeartbeats 2000000 in
theorem ex8 {Q : Exit → Act → World → Prop} {l n : Nat} {t0 t1 t2 t4 t5 t6 t8 t9 t10 t11 t12 t13 t14 t15 t16 t17 t18 t19 t20 t21 t22 t23 t24 t25 t26 t27 t28 t29 t30 t31 t32 t33 t34 t35 t36 t37 t38 t39 t40 t41 t42 t43 t44 t45 t46 t47 t48 t49 t50 t51 t52 t53 t54 t55 t56 t57 t58 t59 t60 t61 t62 t63 t64 : Value} {W : World} {kb mb tb m c p q : Nat} {hd : Hd} {a : Option Addr} {L : List (Pl × Value)} {b : Bool}
    (hk : W.cell? ⟨kb, 0, none⟩ = some (.map (some mb))) (hT : (W.cell? ⟨tb, 0, none⟩ = some (.int .i64 hd.k) ∧ W.cell? ⟨tb, 1, none⟩ = some (.int .i64 hd.m) ∧ W.cell? ⟨tb, 2, none⟩ = some (.int .i64 hd.e) ∧ W.cell? ⟨tb, 3, none⟩ = some (.string hd.t) ∧ W.cell? ⟨tb, 4, none⟩ = some (.slice a m c) ∧ W.cell? ⟨tb, 5, none⟩ = some (.slice hd.na hd.ns.length hd.nc))) (hm : plKeysV.Is W mb L) (hok : PlOk W (plOf a m)) (hoks : ∀ q ∈ L, PlOk W q.1) (ha : m = 0 ∨ ∃ b o, a = some ⟨b, o, none⟩) (hml : m ≤ 2000000) (hg : (getL (plOf a m) L).getD (.agg #[.int .i64 0, .int .i64 0]) = (.agg #[.int .i64 p, .int .i64 q])) (hb : (getL (plOf a m) L).isSome = b)
    (hp : ∀ p d v a w, Q (.panic p) (Act.put a d v) w → Q (.panic p) a w) (h : ∀ ws B v21 v22 v23 v24 v25 v26 v27 v28 v29, W.heap.size ≤ B → Below W.heap.size W ws → Row ws B [.int .i64 p, .int .i64 q] → Q .normal { tmps := (t0 :: t1 :: t2 :: (.pointer (some ⟨kb, 0, none⟩)) :: t4 :: t5 :: t6 :: (.pointer (some ⟨tb, 0, none⟩)) :: (.pointer (some ⟨B, 0, none⟩)) :: (.bool b) :: t10 :: t11 :: t12 :: t13 :: t14 :: t15 :: t16 :: t17 :: t18 :: t19 :: t20 :: v21 :: v22 :: v23 :: v24 :: v25 :: v26 :: v27 :: v28 :: v29 :: t30 :: t31 :: t32 :: t33 :: t34 :: t35 :: t36 :: t37 :: t38 :: t39 :: t40 :: t41 :: t42 :: t43 :: t44 :: t45 :: t46 :: t47 :: t48 :: t49 :: t50 :: t51 :: t52 :: t53 :: t54 :: t55 :: t56 :: t57 :: t58 :: t59 :: t60 :: t61 :: t62 :: t63 :: t64 :: []).toArray, defers := [] } ws) :
    Code.wpIn (Fence.wide.inRound l) n Try.prog (Code.region 8 #[{ dst := some 22, op := Op.load 77 (Operand.tmp 3), type := 77, pos := "l3_tree.go:298", after := #[], guard := none }, { dst := some 23, op := Op.load 28 (Operand.tmp 7), type := 28, pos := "l3_tree.go:298", after := #[], guard := none }, { dst := some 24, op := Op.makeInterface 28 (Operand.tmp 23), type := 20, pos := "l3_tree.go:298", after := #[{ on := 1, ground := Ground.data }], guard := none }, { dst := some 25, op := Op.call { callee := Callee.invoke (Operand.tmp 24) "loop.example/chancery/impl.below", args := #[], argTypes := #[] }, type := 25, pos := "l3_tree.go:298", after := #[{ on := 2, ground := Ground.data }], guard := none }, { dst := some 26, op := Op.call { callee := Callee.value (Operand.func 51), args := #[Operand.tmp 25], argTypes := #[25] }, type := 84, pos := "l3_tree.go:298", after := #[{ on := 3, ground := Ground.data }, { on := 3, ground := Ground.chain }], guard := none }, { dst := some 27, op := Op.lookup 77 (Operand.tmp 22) (Operand.tmp 26) true, type := 81, pos := "l3_tree.go:298", after := #[{ on := 0, ground := Ground.data }, { on := 4, ground := Ground.data }], guard := none }, { dst := some 21, op := Op.move (Operand.tmp 27), type := 81, pos := "l3_tree.go:298", after := #[{ on := 5, ground := Ground.data }], guard := none }, { dst := some 28, op := Op.extract (Operand.tmp 21) 0, type := 49, pos := "l3_tree.go:298", after := #[{ on := 6, ground := Ground.data }], guard := none }, { dst := some 29, op := Op.extract (Operand.tmp 21) 1, type := 4, pos := "l3_tree.go:298", after := #[{ on := 6, ground := Ground.data }, { on := 10, ground := Ground.gcOnly Departure.lateStores }], guard := none }, { dst := some 8, op := Op.alloc 49, type := 0, pos := "l3_tree.go:298", after := #[], guard := none }, { dst := none, op := Op.store 49 (Operand.tmp 8) (Operand.tmp 28), type := 0, pos := "l3_tree.go:298", after := #[{ on := 9, ground := Ground.data }, { on := 7, ground := Ground.data }, { on := 4, ground := Ground.chain }, { on := 0, ground := Ground.phase }, { on := 1, ground := Ground.phase }, { on := 2, ground := Ground.phase }, { on := 3, ground := Ground.phase }, { on := 4, ground := Ground.phase }, { on := 5, ground := Ground.phase }, { on := 6, ground := Ground.phase }, { on := 7, ground := Ground.phase }, { on := 8, ground := Ground.textOnly Departure.lateStores }, { on := 9, ground := Ground.phase }], guard := none }, { dst := some 9, op := Op.assign (Operand.tmp 29), type := 4, pos := "l3_tree.go:298", after := #[{ on := 8, ground := Ground.data }, { on := 10, ground := Ground.chain }, { on := 0, ground := Ground.phase }, { on := 1, ground := Ground.phase }, { on := 2, ground := Ground.phase }, { on := 3, ground := Ground.phase }, { on := 4, ground := Ground.phase }, { on := 5, ground := Ground.phase }, { on := 6, ground := Ground.phase }, { on := 7, ground := Ground.phase }, { on := 8, ground := Ground.phase }, { on := 9, ground := Ground.phase }, { on := 10, ground := Ground.phase }], guard := none }] true) Q { tmps := (t0 :: t1 :: t2 :: (.pointer (some ⟨kb, 0, none⟩)) :: t4 :: t5 :: t6 :: (.pointer (some ⟨tb, 0, none⟩)) :: t8 :: t9 :: t10 :: t11 :: t12 :: t13 :: t14 :: t15 :: t16 :: t17 :: t18 :: t19 :: t20 :: t21 :: t22 :: t23 :: t24 :: t25 :: t26 :: t27 :: t28 :: t29 :: t30 :: t31 :: t32 :: t33 :: t34 :: t35 :: t36 :: t37 :: t38 :: t39 :: t40 :: t41 :: t42 :: t43 :: t44 :: t45 :: t46 :: t47 :: t48 :: t49 :: t50 :: t51 :: t52 :: t53 :: t54 :: t55 :: t56 :: t57 :: t58 :: t59 :: t60 :: t61 :: t62 :: t63 :: t64 :: []).toArray, defers := [] } W := by
  have hmeth := belowV_method
  have hB0 := (Below.refl W.heap.size W).drew
  have HSof : Hid (∀ w', Below W.heap.size W w' → w'.cell? ⟨kb, 0, none⟩ = some (.map (some mb)) ∧ (w'.cell? ⟨tb, 0, none⟩ = some (.int .i64 hd.k) ∧ w'.cell? ⟨tb, 1, none⟩ = some (.int .i64 hd.m) ∧ w'.cell? ⟨tb, 2, none⟩ = some (.int .i64 hd.e) ∧ w'.cell? ⟨tb, 3, none⟩ = some (.string hd.t) ∧ w'.cell? ⟨tb, 4, none⟩ = some (.slice a m c) ∧ w'.cell? ⟨tb, 5, none⟩ = some (.slice hd.na hd.ns.length hd.nc)) ∧ (Instr.lookup 77 (.map (some mb)) (.agg #[.pointer (plOf a m).1, .int .i64 (plOf a m).2]) true).run Try.prog w' = .ok (.tuple #[(.agg #[.int .i64 p, .int .i64 q]), .bool b]) w') := fun w' h => by
    have hk1 := World.block_lt_of_cell? _ _ hk
    have ht1 := World.block_lt_of_cell? _ _ hT.1
    have hmlt : mb < W.heap.size := by obtain ⟨es, clock, h, _⟩ := hm; exact (Array.getElem?_eq_some_iff.1 h).1
    have hz : (zeroValue 49).run Try.prog w' = .ok (.agg #[.int .i64 0, .int .i64 0]) w' := by kernel_rfl
    have hl := plKeysV.look2 (mty := 77) (et := 49) Try.underlying77 (plOf a m) (hok.below h) (fun q hq => (hoks q hq).below h) (hm.grown _ (h.block _ hmlt)) hz
    rw [hg, hb] at hl
    exact ⟨(h.cell (p := ⟨kb, 0, none⟩) hk1).trans hk, ⟨(h.cell (p := ⟨tb, 0, none⟩) ht1).trans hT.1, (h.cell (p := ⟨tb, 1, none⟩) ht1).trans hT.2.1, (h.cell (p := ⟨tb, 2, none⟩) ht1).trans hT.2.2.1, (h.cell (p := ⟨tb, 3, none⟩) ht1).trans hT.2.2.2.1, (h.cell (p := ⟨tb, 4, none⟩) ht1).trans hT.2.2.2.2.1, (h.cell (p := ⟨tb, 5, none⟩) ht1).trans hT.2.2.2.2.2⟩, hl⟩
  clear hk hT hm hok hoks hg hb
  refine wpIn_region_round2 (S := fun w' => Below W.heap.size W w') (by kernel_rfl) (by kernel_rfl) hB0 (fun hHeld => ?_)
  refine wpAnyH_take (i := 0) (v := .map (some mb)) rfl (by kernel_rfl) (by kernel_rfl) (by kernel_rfl) (fun _ _ _ h => ⟨h.1, hp _ _ _ _ _ h.2⟩) (Or.inl ⟨by rfl, ?_⟩) (by assumption) ?_
  · intro w hSw
    (try dsimp only at hSw)
    obtain ⟨f0, ⟨f1, f2, f3, f4, f5, f5b⟩, f6⟩ := HSof.out _ hSw
    go_simp
  (try simp only [Act.put, List.getElem_toArray, List.getElem_cons_zero, List.setIfInBounds_toArray, List.set_cons_zero, List.set_cons_succ])
  refine wpAnyH_take (i := 1) (v := valV hd a m c) rfl (by kernel_rfl) (by kernel_rfl) (by kernel_rfl) (fun _ _ _ h => ⟨h.1, hp _ _ _ _ _ h.2⟩) (Or.inl ⟨by rfl, ?_⟩) (by assumption) ?_
  · intro w hSw
    (try dsimp only at hSw)
    obtain ⟨f0, ⟨f1, f2, f3, f4, f5, f5b⟩, f6⟩ := HSof.out _ hSw
    go_simp
  (try simp only [Act.put, List.getElem_toArray, List.getElem_cons_zero, List.getElem_cons_succ, List.setIfInBounds_toArray, List.set_cons_zero, List.set_cons_succ])
  refine wpAnyH_take (i := 2) (v := .iface 28 (valV hd a m c)) rfl (by kernel_rfl) (by kernel_rfl) (by kernel_rfl) (fun _ _ _ h => ⟨h.1, hp _ _ _ _ _ h.2⟩) (Or.inl ⟨by rfl, ?_⟩) (by assumption) ?_
  · intro w hSw
    (try dsimp only at hSw)
    obtain ⟨f0, ⟨f1, f2, f3, f4, f5, f5b⟩, f6⟩ := HSof.out _ hSw
    go_simp
  (try simp only [Act.put, List.getElem_toArray, List.getElem_cons_zero, List.getElem_cons_succ, List.setIfInBounds_toArray, List.set_cons_zero, List.set_cons_succ])
  refine wpAnyH_ready (rs := [3, 9]) (by kernel_rfl) (by simp) ?_
  refine (AllReadyH.cons rfl (fun K hK => ?_) (AllReadyH.cons rfl (fun K hK => ?_) AllReadyH.nil))
  · go_simp
    refine (belowV_any hd a m c _).mono ?_
    rintro r w1 ⟨rfl, hb1⟩
    have hB1 := hB0.trans (hb1.mono hB0.size)
    go_wp2_with fail
    refine hK.out _ _ hB1 (fun hHeld => ?_)
    clear hK K
    refine wpAnyH_ready (rs := [4, 9]) (by kernel_rfl) (by simp) ?_
    refine (AllReadyH.cons rfl (fun K hK => ?_) (AllReadyH.cons rfl (fun K hK => ?_) AllReadyH.nil))
    · go_simp
      refine (placeOfV_any a m c _ ha hml).mono ?_
      rintro r w2 ⟨rfl, hb2⟩
      have hB2 := hB1.trans (hb2.mono hB1.size)
      go_wp2_with fail
      refine hK.out _ _ hB2 (fun hHeld => ?_)
      clear hK K
      unfold plV
      refine wpAnyH_take (i := 5) (v := .tuple #[(.agg #[.int .i64 p, .int .i64 q]), .bool b]) rfl (by kernel_rfl) (by kernel_rfl) (by kernel_rfl) (fun _ _ _ h => ⟨h.1, hp _ _ _ _ _ h.2⟩) (Or.inl ⟨by rfl, ?_⟩) (by assumption) ?_
      · intro w hSw
        (try dsimp only at hSw)
        obtain ⟨f0, ⟨f1, f2, f3, f4, f5, f5b⟩, f6⟩ := HSof.out _ hSw
        go_simp
      (try simp only [Act.put, List.getElem_toArray, List.getElem_cons_zero, List.getElem_cons_succ, List.setIfInBounds_toArray, List.set_cons_zero, List.set_cons_succ])
      refine wpAnyH_take (i := 6) (v := .tuple #[(.agg #[.int .i64 p, .int .i64 q]), .bool b]) rfl (by kernel_rfl) (by kernel_rfl) (by kernel_rfl) (fun _ _ _ h => ⟨h.1, hp _ _ _ _ _ h.2⟩) (Or.inl ⟨by rfl, ?_⟩) (by assumption) ?_
      · intro w hSw
        (try dsimp only at hSw)
        obtain ⟨f0, ⟨f1, f2, f3, f4, f5, f5b⟩, f6⟩ := HSof.out _ hSw
        go_simp
      (try simp only [Act.put, List.getElem_toArray, List.getElem_cons_zero, List.getElem_cons_succ, List.setIfInBounds_toArray, List.set_cons_zero, List.set_cons_succ])
      refine wpAnyH_take (i := 7) (v := (.agg #[.int .i64 p, .int .i64 q])) rfl (by kernel_rfl) (by kernel_rfl) (by kernel_rfl) (fun _ _ _ h => ⟨h.1, hp _ _ _ _ _ h.2⟩) (Or.inl ⟨by rfl, ?_⟩) (by assumption) ?_
      · intro w hSw
        (try dsimp only at hSw)
        obtain ⟨f0, ⟨f1, f2, f3, f4, f5, f5b⟩, f6⟩ := HSof.out _ hSw
        go_simp
      (try simp only [Act.put, List.getElem_toArray, List.getElem_cons_zero, List.getElem_cons_succ, List.setIfInBounds_toArray, List.set_cons_zero, List.set_cons_succ])
      refine wpAnyH_take (i := 8) (v := .bool b) rfl (by kernel_rfl) (by kernel_rfl) (by kernel_rfl) (fun _ _ _ h => ⟨h.1, hp _ _ _ _ _ h.2⟩) (Or.inl ⟨by rfl, ?_⟩) (by assumption) ?_
      · intro w hSw
        (try dsimp only at hSw)
        obtain ⟨f0, ⟨f1, f2, f3, f4, f5, f5b⟩, f6⟩ := HSof.out _ hSw
        go_simp
      (try simp only [Act.put, List.getElem_toArray, List.getElem_cons_zero, List.getElem_cons_succ, List.setIfInBounds_toArray, List.set_cons_zero, List.set_cons_succ])
      refine wpAnyH_ready (rs := [9]) (by kernel_rfl) (by simp) ?_
      refine (AllReadyH.cons rfl (fun K hK => ?_) AllReadyH.nil)
      · have RN := Row.new w2 [.int .i64 0, .int .i64 0] 49
        have hBA := hB2.alloc hB2.size (.cells #[.int .i64 0, .int .i64 0] 49)
        have hBg := hB2.size
        go_simp
        refine hK.out _ _ hBA (fun hHeld => ?_)
        clear hK K
        (try simp only [Act.put, List.getElem_toArray, List.getElem_cons_zero, List.getElem_cons_succ, List.setIfInBounds_toArray, List.set_cons_zero, List.set_cons_succ])
        obtain ⟨z0, z0f⟩ := RN 0 _ rfl
        obtain ⟨z1, z1f⟩ := RN 1 _ rfl
        have R1 := Row.new w2 [.int .i64 p, .int .i64 q] 49
        have hBs := hB2.alloc hB2.size (.cells #[.int .i64 p, .int .i64 q] 49)
        refine wpAnyH_ready (rs := [10]) (by kernel_rfl) (by simp) ?_
        refine (AllReadyH.cons rfl (fun K hK => ?_) AllReadyH.nil)
        · go_simp
          refine hK.out _ _ hBs (fun hHeld => ?_)
          clear hK K
          (try simp only [Act.put, List.getElem_toArray, List.getElem_cons_zero, List.getElem_cons_succ, List.setIfInBounds_toArray, List.set_cons_zero, List.set_cons_succ])
          refine wpAnyH_take (i := 11) (v := .bool b) rfl (by kernel_rfl) (by kernel_rfl) (by kernel_rfl) (fun _ _ _ h => ⟨h.1, hp _ _ _ _ _ h.2⟩) (Or.inl ⟨by rfl, ?_⟩) (by assumption) ?_
          · intro w hSw
            (try dsimp only at hSw)
            obtain ⟨f0, ⟨f1, f2, f3, f4, f5, f5b⟩, f6⟩ := HSof.out _ hSw
            go_simp
          (try simp only [Act.put, List.getElem_toArray, List.getElem_cons_zero, List.getElem_cons_succ, List.setIfInBounds_toArray, List.set_cons_zero, List.set_cons_succ])
          refine wpAnyH_done (by kernel_rfl) ?_ _
          exact ⟨(fun e => by cases e), h _ _ _ _ _ _ _ _ _ _ _ hBg hBs R1⟩
    · have RN := Row.new w1 [.int .i64 0, .int .i64 0] 49
      have hBA := hB1.alloc hB1.size (.cells #[.int .i64 0, .int .i64 0] 49)
      have hBg := hB1.size
      go_simp
      refine hK.out _ _ hBA (fun hHeld => ?_)
      clear hK K
      (try simp only [Act.put, List.getElem_toArray, List.getElem_cons_zero, List.getElem_cons_succ, List.setIfInBounds_toArray, List.set_cons_zero, List.set_cons_succ])
      refine wpAnyH_ready (rs := [4]) (by kernel_rfl) (by simp) ?_
      refine (AllReadyH.cons rfl (fun K hK => ?_) AllReadyH.nil)
      · go_simp
        refine (placeOfV_any a m c _ ha hml).mono ?_
        rintro r w2 ⟨rfl, hb2⟩
        have hB2 := hBA.trans (hb2.mono hBA.size)
        go_wp2_with fail
        refine hK.out _ _ hB2 (fun hHeld => ?_)
        clear hK K
        unfold plV
        have R2 := RN.below hb2 RN.lt
        refine wpAnyH_take (i := 5) (v := .tuple #[(.agg #[.int .i64 p, .int .i64 q]), .bool b]) rfl (by kernel_rfl) (by kernel_rfl) (by kernel_rfl) (fun _ _ _ h => ⟨h.1, hp _ _ _ _ _ h.2⟩) (Or.inl ⟨by rfl, ?_⟩) (by assumption) ?_
        · intro w hSw
          (try dsimp only at hSw)
          obtain ⟨f0, ⟨f1, f2, f3, f4, f5, f5b⟩, f6⟩ := HSof.out _ hSw
          go_simp
        (try simp only [Act.put, List.getElem_toArray, List.getElem_cons_zero, List.getElem_cons_succ, List.setIfInBounds_toArray, List.set_cons_zero, List.set_cons_succ])
        refine wpAnyH_take (i := 6) (v := .tuple #[(.agg #[.int .i64 p, .int .i64 q]), .bool b]) rfl (by kernel_rfl) (by kernel_rfl) (by kernel_rfl) (fun _ _ _ h => ⟨h.1, hp _ _ _ _ _ h.2⟩) (Or.inl ⟨by rfl, ?_⟩) (by assumption) ?_
        · intro w hSw
          (try dsimp only at hSw)
          obtain ⟨f0, ⟨f1, f2, f3, f4, f5, f5b⟩, f6⟩ := HSof.out _ hSw
          go_simp
        (try simp only [Act.put, List.getElem_toArray, List.getElem_cons_zero, List.getElem_cons_succ, List.setIfInBounds_toArray, List.set_cons_zero, List.set_cons_succ])
        refine wpAnyH_take (i := 7) (v := (.agg #[.int .i64 p, .int .i64 q])) rfl (by kernel_rfl) (by kernel_rfl) (by kernel_rfl) (fun _ _ _ h => ⟨h.1, hp _ _ _ _ _ h.2⟩) (Or.inl ⟨by rfl, ?_⟩) (by assumption) ?_
        · intro w hSw
          (try dsimp only at hSw)
          obtain ⟨f0, ⟨f1, f2, f3, f4, f5, f5b⟩, f6⟩ := HSof.out _ hSw
          go_simp
        (try simp only [Act.put, List.getElem_toArray, List.getElem_cons_zero, List.getElem_cons_succ, List.setIfInBounds_toArray, List.set_cons_zero, List.set_cons_succ])
        refine wpAnyH_take (i := 8) (v := .bool b) rfl (by kernel_rfl) (by kernel_rfl) (by kernel_rfl) (fun _ _ _ h => ⟨h.1, hp _ _ _ _ _ h.2⟩) (Or.inl ⟨by rfl, ?_⟩) (by assumption) ?_
        · intro w hSw
          (try dsimp only at hSw)
          obtain ⟨f0, ⟨f1, f2, f3, f4, f5, f5b⟩, f6⟩ := HSof.out _ hSw
          go_simp
        (try simp only [Act.put, List.getElem_toArray, List.getElem_cons_zero, List.getElem_cons_succ, List.setIfInBounds_toArray, List.set_cons_zero, List.set_cons_succ])
        have R1 := (R2.set (i := 0) (by decide) (.int .i64 p)).set (i := 1) (by simp) (.int .i64 q)
        obtain ⟨z0, z0f⟩ := R2 0 _ rfl
        obtain ⟨z1, z1f⟩ := R2 1 _ rfl
        have hBs := (hB2.setCell (p := ⟨w1.heap.size, 0, none⟩) hBg (.int .i64 p)).setCell (p := ⟨w1.heap.size, 1, none⟩) hBg (.int .i64 q)
        refine wpAnyH_ready (rs := [10]) (by kernel_rfl) (by simp) ?_
        refine (AllReadyH.cons rfl (fun K hK => ?_) AllReadyH.nil)
        · go_simp
          refine hK.out _ _ hBs (fun hHeld => ?_)
          clear hK K
          (try simp only [Act.put, List.getElem_toArray, List.getElem_cons_zero, List.getElem_cons_succ, List.setIfInBounds_toArray, List.set_cons_zero, List.set_cons_succ])
          refine wpAnyH_take (i := 11) (v := .bool b) rfl (by kernel_rfl) (by kernel_rfl) (by kernel_rfl) (fun _ _ _ h => ⟨h.1, hp _ _ _ _ _ h.2⟩) (Or.inl ⟨by rfl, ?_⟩) (by assumption) ?_
          · intro w hSw
            (try dsimp only at hSw)
            obtain ⟨f0, ⟨f1, f2, f3, f4, f5, f5b⟩, f6⟩ := HSof.out _ hSw
            go_simp
          (try simp only [Act.put, List.getElem_toArray, List.getElem_cons_zero, List.getElem_cons_succ, List.setIfInBounds_toArray, List.set_cons_zero, List.set_cons_succ])
          refine wpAnyH_done (by kernel_rfl) ?_ _
          exact ⟨(fun e => by cases e), h _ _ _ _ _ _ _ _ _ _ _ hBg hBs R1⟩
  · have RN := Row.new W.drew [.int .i64 0, .int .i64 0] 49
    have hBA := hB0.alloc hB0.size (.cells #[.int .i64 0, .int .i64 0] 49)
    have hBg := hB0.size
    go_simp
    refine hK.out _ _ hBA (fun hHeld => ?_)
    clear hK K
    (try simp only [Act.put, List.getElem_toArray, List.getElem_cons_zero, List.getElem_cons_succ, List.setIfInBounds_toArray, List.set_cons_zero, List.set_cons_succ])
    have RN' : Row _ W.heap.size _ := RN
    refine wpAnyH_ready (rs := [3]) (by kernel_rfl) (by simp) ?_
    refine (AllReadyH.cons rfl (fun K hK => ?_) AllReadyH.nil)
    · go_simp
      refine (belowV_any hd a m c _).mono ?_
      rintro r w1 ⟨rfl, hb1⟩
      have hB1 := hBA.trans (hb1.mono hBA.size)
      go_wp2_with fail
      refine hK.out _ _ hB1 (fun hHeld => ?_)
      clear hK K
      have R1' := RN'.below hb1 RN'.lt
      refine wpAnyH_ready (rs := [4]) (by kernel_rfl) (by simp) ?_
      refine (AllReadyH.cons rfl (fun K hK => ?_) AllReadyH.nil)
      · go_simp
        refine (placeOfV_any a m c _ ha hml).mono ?_
        rintro r w2 ⟨rfl, hb2⟩
        have hB2 := hB1.trans (hb2.mono hB1.size)
        go_wp2_with fail
        refine hK.out _ _ hB2 (fun hHeld => ?_)
        clear hK K
        unfold plV
        have R2 := R1'.below hb2 R1'.lt
        refine wpAnyH_take (i := 5) (v := .tuple #[(.agg #[.int .i64 p, .int .i64 q]), .bool b]) rfl (by kernel_rfl) (by kernel_rfl) (by kernel_rfl) (fun _ _ _ h => ⟨h.1, hp _ _ _ _ _ h.2⟩) (Or.inl ⟨by rfl, ?_⟩) (by assumption) ?_
        · intro w hSw
          (try dsimp only at hSw)
          obtain ⟨f0, ⟨f1, f2, f3, f4, f5, f5b⟩, f6⟩ := HSof.out _ hSw
          go_simp
        (try simp only [Act.put, List.getElem_toArray, List.getElem_cons_zero, List.getElem_cons_succ, List.setIfInBounds_toArray, List.set_cons_zero, List.set_cons_succ])
        refine wpAnyH_take (i := 6) (v := .tuple #[(.agg #[.int .i64 p, .int .i64 q]), .bool b]) rfl (by kernel_rfl) (by kernel_rfl) (by kernel_rfl) (fun _ _ _ h => ⟨h.1, hp _ _ _ _ _ h.2⟩) (Or.inl ⟨by rfl, ?_⟩) (by assumption) ?_
        · intro w hSw
          (try dsimp only at hSw)
          obtain ⟨f0, ⟨f1, f2, f3, f4, f5, f5b⟩, f6⟩ := HSof.out _ hSw
          go_simp
        (try simp only [Act.put, List.getElem_toArray, List.getElem_cons_zero, List.getElem_cons_succ, List.setIfInBounds_toArray, List.set_cons_zero, List.set_cons_succ])
        refine wpAnyH_take (i := 7) (v := (.agg #[.int .i64 p, .int .i64 q])) rfl (by kernel_rfl) (by kernel_rfl) (by kernel_rfl) (fun _ _ _ h => ⟨h.1, hp _ _ _ _ _ h.2⟩) (Or.inl ⟨by rfl, ?_⟩) (by assumption) ?_
        · intro w hSw
          (try dsimp only at hSw)
          obtain ⟨f0, ⟨f1, f2, f3, f4, f5, f5b⟩, f6⟩ := HSof.out _ hSw
          go_simp
        (try simp only [Act.put, List.getElem_toArray, List.getElem_cons_zero, List.getElem_cons_succ, List.setIfInBounds_toArray, List.set_cons_zero, List.set_cons_succ])
        refine wpAnyH_take (i := 8) (v := .bool b) rfl (by kernel_rfl) (by kernel_rfl) (by kernel_rfl) (fun _ _ _ h => ⟨h.1, hp _ _ _ _ _ h.2⟩) (Or.inl ⟨by rfl, ?_⟩) (by assumption) ?_
        · intro w hSw
          (try dsimp only at hSw)
          obtain ⟨f0, ⟨f1, f2, f3, f4, f5, f5b⟩, f6⟩ := HSof.out _ hSw
          go_simp
        (try simp only [Act.put, List.getElem_toArray, List.getElem_cons_zero, List.getElem_cons_succ, List.setIfInBounds_toArray, List.set_cons_zero, List.set_cons_succ])
        have R1 := (R2.set (i := 0) (by decide) (.int .i64 p)).set (i := 1) (by simp) (.int .i64 q)
        obtain ⟨z0, z0f⟩ := R2 0 _ rfl
        obtain ⟨z1, z1f⟩ := R2 1 _ rfl
        have hBs := (hB2.setCell (p := ⟨W.heap.size, 0, none⟩) hBg (.int .i64 p)).setCell (p := ⟨W.heap.size, 1, none⟩) hBg (.int .i64 q)
        refine wpAnyH_ready (rs := [10]) (by kernel_rfl) (by simp) ?_
        refine (AllReadyH.cons rfl (fun K hK => ?_) AllReadyH.nil)
        · go_simp
          refine hK.out _ _ hBs (fun hHeld => ?_)
          clear hK K
          (try simp only [Act.put, List.getElem_toArray, List.getElem_cons_zero, List.getElem_cons_succ, List.setIfInBounds_toArray, List.set_cons_zero, List.set_cons_succ])
          refine wpAnyH_take (i := 11) (v := .bool b) rfl (by kernel_rfl) (by kernel_rfl) (by kernel_rfl) (fun _ _ _ h => ⟨h.1, hp _ _ _ _ _ h.2⟩) (Or.inl ⟨by rfl, ?_⟩) (by assumption) ?_
          · intro w hSw
            (try dsimp only at hSw)
            obtain ⟨f0, ⟨f1, f2, f3, f4, f5, f5b⟩, f6⟩ := HSof.out _ hSw
            go_simp
          (try simp only [Act.put, List.getElem_toArray, List.getElem_cons_zero, List.getElem_cons_succ, List.setIfInBounds_toArray, List.set_cons_zero, List.set_cons_succ])
          refine wpAnyH_done (by kernel_rfl) ?_ _
          exact ⟨(fun e => by cases e), h _ _ _ _ _ _ _ _ _ _ _ hBg hBs R1⟩
end Go.Proofs.Ytafhpplhlmlfhaa
/- How many values a value has, by the program: the regions behind the range. -/
namespace Go.Proofs.Ytafhpplhlmlfhaa
open Go.RowKit
set_option maxRecDepth 100000 in
set_option maxHeartbeats 2000000 in
theorem ex15 {ds : List Deferred} {Q : Exit → Act → World → Prop} {t0 t2 t4 t5 t6 t7 t8 t9 t10 t11 t12 t13 t14 t15 t16 t17 t18 t19 t20 t21 t22 t23 t24 t25 t26 t27 t28 t29 t30 t31 t32 t33 t34 t35 t36 t37 t38 t39 t40 t41 t42 t43 t44 t45 t46 t47 t48 t49 t50 t51 t52 t53 t54 t55 t56 t57 t58 t59 t60 t61 t62 t63 t64 : Value} {W : World} {kb mb tb m c p q : Nat} {hd : Hd} {a : Option Addr} {L : List (Pl × Value)}
    (hk : W.cell? ⟨kb, 0, none⟩ = some (.map (some mb))) (hT : (W.cell? ⟨tb, 0, none⟩ = some (.int .i64 hd.k) ∧ W.cell? ⟨tb, 1, none⟩ = some (.int .i64 hd.m) ∧ W.cell? ⟨tb, 2, none⟩ = some (.int .i64 hd.e) ∧ W.cell? ⟨tb, 3, none⟩ = some (.string hd.t) ∧ W.cell? ⟨tb, 4, none⟩ = some (.slice a m c) ∧ W.cell? ⟨tb, 5, none⟩ = some (.slice hd.na hd.ns.length hd.nc))) (hm : plKeysV.Is W mb L) (hok : PlOk W (plOf a m)) (hoks : ∀ q ∈ L, PlOk W q.1) (ha : m = 0 ∨ ∃ b o, a = some ⟨b, o, none⟩) (hml : m ≤ 2000000) (hg : (getL (plOf a m) L).getD (.agg #[.int .i64 0, .int .i64 0]) = (.agg #[.int .i64 p, .int .i64 q]))
    (hp : ∀ p d v a w, Q (.panic p) (Act.put a d v) w → Q (.panic p) a w) (h : ∀ ws B v52 v53 v54 v55 v56 v57, W.heap.size ≤ B → Below W.heap.size W ws → Row ws B [.int .i64 p, .int .i64 q] → Q .normal { tmps := (t0 :: (.pointer (some ⟨tb, 0, none⟩)) :: t2 :: (.pointer (some ⟨kb, 0, none⟩)) :: t4 :: t5 :: t6 :: t7 :: t8 :: t9 :: (.pointer (some ⟨B, 0, none⟩)) :: t11 :: t12 :: t13 :: t14 :: t15 :: t16 :: t17 :: t18 :: t19 :: t20 :: t21 :: t22 :: t23 :: t24 :: t25 :: t26 :: t27 :: t28 :: t29 :: t30 :: t31 :: t32 :: t33 :: t34 :: t35 :: t36 :: t37 :: t38 :: t39 :: t40 :: t41 :: t42 :: t43 :: t44 :: t45 :: t46 :: t47 :: t48 :: t49 :: t50 :: t51 :: v52 :: v53 :: v54 :: v55 :: v56 :: v57 :: t58 :: t59 :: t60 :: t61 :: t62 :: t63 :: t64 :: []).toArray, defers := ds } ws) :
    Code.wp Try.prog (Code.region 15 #[{ dst := some 52, op := Op.load 77 (Operand.tmp 3), type := 77, pos := "l3_tree.go:307", after := #[], guard := none }, { dst := some 53, op := Op.load 28 (Operand.tmp 1), type := 28, pos := "l3_tree.go:307", after := #[], guard := none }, { dst := some 54, op := Op.makeInterface 28 (Operand.tmp 53), type := 20, pos := "l3_tree.go:307", after := #[{ on := 1, ground := Ground.data }], guard := none }, { dst := some 55, op := Op.call { callee := Callee.invoke (Operand.tmp 54) "loop.example/chancery/impl.below", args := #[], argTypes := #[] }, type := 25, pos := "l3_tree.go:307", after := #[{ on := 2, ground := Ground.data }], guard := none }, { dst := some 56, op := Op.call { callee := Callee.value (Operand.func 51), args := #[Operand.tmp 55], argTypes := #[25] }, type := 84, pos := "l3_tree.go:307", after := #[{ on := 3, ground := Ground.data }, { on := 3, ground := Ground.chain }], guard := none }, { dst := some 57, op := Op.lookup 77 (Operand.tmp 52) (Operand.tmp 56) false, type := 49, pos := "l3_tree.go:307", after := #[{ on := 0, ground := Ground.data }, { on := 4, ground := Ground.data }], guard := none }, { dst := some 10, op := Op.alloc 49, type := 0, pos := "l3_tree.go:307", after := #[], guard := none }, { dst := none, op := Op.store 49 (Operand.tmp 10) (Operand.tmp 57), type := 0, pos := "l3_tree.go:307", after := #[{ on := 6, ground := Ground.data }, { on := 5, ground := Ground.data }, { on := 4, ground := Ground.chain }, { on := 0, ground := Ground.phase }, { on := 1, ground := Ground.phase }, { on := 2, ground := Ground.phase }, { on := 3, ground := Ground.phase }, { on := 4, ground := Ground.phase }, { on := 5, ground := Ground.phase }, { on := 6, ground := Ground.phase }], guard := none }] true) Q { tmps := (t0 :: (.pointer (some ⟨tb, 0, none⟩)) :: t2 :: (.pointer (some ⟨kb, 0, none⟩)) :: t4 :: t5 :: t6 :: t7 :: t8 :: t9 :: t10 :: t11 :: t12 :: t13 :: t14 :: t15 :: t16 :: t17 :: t18 :: t19 :: t20 :: t21 :: t22 :: t23 :: t24 :: t25 :: t26 :: t27 :: t28 :: t29 :: t30 :: t31 :: t32 :: t33 :: t34 :: t35 :: t36 :: t37 :: t38 :: t39 :: t40 :: t41 :: t42 :: t43 :: t44 :: t45 :: t46 :: t47 :: t48 :: t49 :: t50 :: t51 :: t52 :: t53 :: t54 :: t55 :: t56 :: t57 :: t58 :: t59 :: t60 :: t61 :: t62 :: t63 :: t64 :: []).toArray, defers := ds } W := by
  have hmeth := belowV_method
  have hB0 := (Below.refl W.heap.size W).drew
  have HSof : Hid (∀ w', Below W.heap.size W w' → w'.cell? ⟨kb, 0, none⟩ = some (.map (some mb)) ∧ (w'.cell? ⟨tb, 0, none⟩ = some (.int .i64 hd.k) ∧ w'.cell? ⟨tb, 1, none⟩ = some (.int .i64 hd.m) ∧ w'.cell? ⟨tb, 2, none⟩ = some (.int .i64 hd.e) ∧ w'.cell? ⟨tb, 3, none⟩ = some (.string hd.t) ∧ w'.cell? ⟨tb, 4, none⟩ = some (.slice a m c) ∧ w'.cell? ⟨tb, 5, none⟩ = some (.slice hd.na hd.ns.length hd.nc)) ∧ (Instr.lookup 77 (.map (some mb)) (.agg #[.pointer (plOf a m).1, .int .i64 (plOf a m).2]) false).run Try.prog w' = .ok (.agg #[.int .i64 p, .int .i64 q]) w') := fun w' h => by
    have hk1 := World.block_lt_of_cell? _ _ hk
    have ht1 := World.block_lt_of_cell? _ _ hT.1
    have hmlt : mb < W.heap.size := by obtain ⟨es, clock, h, _⟩ := hm; exact (Array.getElem?_eq_some_iff.1 h).1
    have hz : (zeroValue 49).run Try.prog w' = .ok (.agg #[.int .i64 0, .int .i64 0]) w' := by kernel_rfl
    have hl := plKeysV.look (mty := 77) (et := 49) Try.underlying77 (plOf a m) (hok.below h) (fun q hq => (hoks q hq).below h) (hm.grown _ (h.block _ hmlt)) hz
    rw [hg] at hl
    exact ⟨(h.cell (p := ⟨kb, 0, none⟩) hk1).trans hk, ⟨(h.cell (p := ⟨tb, 0, none⟩) ht1).trans hT.1, (h.cell (p := ⟨tb, 1, none⟩) ht1).trans hT.2.1, (h.cell (p := ⟨tb, 2, none⟩) ht1).trans hT.2.2.1, (h.cell (p := ⟨tb, 3, none⟩) ht1).trans hT.2.2.2.1, (h.cell (p := ⟨tb, 4, none⟩) ht1).trans hT.2.2.2.2.1, (h.cell (p := ⟨tb, 5, none⟩) ht1).trans hT.2.2.2.2.2⟩, hl⟩
  clear hk hT hm hok hoks hg
  refine wp_region_held_drew (S := fun w' => Below W.heap.size W w') (by kernel_rfl) hB0 (fun hHeld => ?_)
  refine wpAnyH_take (i := 0) (v := .map (some mb)) rfl (by kernel_rfl) (by kernel_rfl) (by kernel_rfl) (fun _ _ _ h => hp _ _ _ _ _ h) (Or.inl ⟨by rfl, ?_⟩) (by assumption) ?_
  · intro w hSw
    (try dsimp only at hSw)
    obtain ⟨f0, ⟨f1, f2, f3, f4, f5, f5b⟩, f6⟩ := HSof.out _ hSw
    go_simp
  (try simp only [Act.put, List.getElem_toArray, List.getElem_cons_zero, List.setIfInBounds_toArray, List.set_cons_zero, List.set_cons_succ])
  refine wpAnyH_take (i := 1) (v := valV hd a m c) rfl (by kernel_rfl) (by kernel_rfl) (by kernel_rfl) (fun _ _ _ h => hp _ _ _ _ _ h) (Or.inl ⟨by rfl, ?_⟩) (by assumption) ?_
  · intro w hSw
    (try dsimp only at hSw)
    obtain ⟨f0, ⟨f1, f2, f3, f4, f5, f5b⟩, f6⟩ := HSof.out _ hSw
    go_simp
  (try simp only [Act.put, List.getElem_toArray, List.getElem_cons_zero, List.getElem_cons_succ, List.setIfInBounds_toArray, List.set_cons_zero, List.set_cons_succ])
  refine wpAnyH_take (i := 2) (v := .iface 28 (valV hd a m c)) rfl (by kernel_rfl) (by kernel_rfl) (by kernel_rfl) (fun _ _ _ h => hp _ _ _ _ _ h) (Or.inl ⟨by rfl, ?_⟩) (by assumption) ?_
  · intro w hSw
    (try dsimp only at hSw)
    obtain ⟨f0, ⟨f1, f2, f3, f4, f5, f5b⟩, f6⟩ := HSof.out _ hSw
    go_simp
  (try simp only [Act.put, List.getElem_toArray, List.getElem_cons_zero, List.getElem_cons_succ, List.setIfInBounds_toArray, List.set_cons_zero, List.set_cons_succ])
  refine wpAnyH_ready (rs := [3, 6]) (by kernel_rfl) (by simp) ?_
  refine (AllReadyH.cons rfl (fun K hK => ?_) (AllReadyH.cons rfl (fun K hK => ?_) AllReadyH.nil))
  · go_simp
    refine (belowV_any hd a m c _).mono ?_
    rintro r w1 ⟨rfl, hb1⟩
    have hB1 := hB0.trans (hb1.mono hB0.size)
    go_wp2_with fail
    refine hK.out _ _ hB1 (fun hHeld => ?_)
    clear hK K
    refine wpAnyH_ready (rs := [4, 6]) (by kernel_rfl) (by simp) ?_
    refine (AllReadyH.cons rfl (fun K hK => ?_) (AllReadyH.cons rfl (fun K hK => ?_) AllReadyH.nil))
    · go_simp
      refine (placeOfV_any a m c _ ha hml).mono ?_
      rintro r w2 ⟨rfl, hb2⟩
      have hB2 := hB1.trans (hb2.mono hB1.size)
      go_wp2_with fail
      refine hK.out _ _ hB2 (fun hHeld => ?_)
      clear hK K
      unfold plV
      refine wpAnyH_take (i := 5) (v := (.agg #[.int .i64 p, .int .i64 q])) rfl (by kernel_rfl) (by kernel_rfl) (by kernel_rfl) (fun _ _ _ h => hp _ _ _ _ _ h) (Or.inl ⟨by rfl, ?_⟩) (by assumption) ?_
      · intro w hSw
        (try dsimp only at hSw)
        obtain ⟨f0, ⟨f1, f2, f3, f4, f5, f5b⟩, f6⟩ := HSof.out _ hSw
        go_simp
      (try simp only [Act.put, List.getElem_toArray, List.getElem_cons_zero, List.getElem_cons_succ, List.setIfInBounds_toArray, List.set_cons_zero, List.set_cons_succ])
      refine wpAnyH_ready (rs := [6]) (by kernel_rfl) (by simp) ?_
      refine (AllReadyH.cons rfl (fun K hK => ?_) AllReadyH.nil)
      · have RN := Row.new w2 [.int .i64 0, .int .i64 0] 49
        have hBA := hB2.alloc hB2.size (.cells #[.int .i64 0, .int .i64 0] 49)
        have hBg := hB2.size
        go_simp
        refine hK.out _ _ hBA (fun hHeld => ?_)
        clear hK K
        (try simp only [Act.put, List.getElem_toArray, List.getElem_cons_zero, List.getElem_cons_succ, List.setIfInBounds_toArray, List.set_cons_zero, List.set_cons_succ])
        obtain ⟨z0, z0f⟩ := RN 0 _ rfl
        obtain ⟨z1, z1f⟩ := RN 1 _ rfl
        have R1 := Row.new w2 [.int .i64 p, .int .i64 q] 49
        have hBs := hB2.alloc hB2.size (.cells #[.int .i64 p, .int .i64 q] 49)
        refine wpAnyH_ready (rs := [7]) (by kernel_rfl) (by simp) ?_
        refine (AllReadyH.cons rfl (fun K hK => ?_) AllReadyH.nil)
        · go_simp
          refine hK.out _ _ hBs (fun hHeld => ?_)
          clear hK K
          (try simp only [Act.put, List.getElem_toArray, List.getElem_cons_zero, List.getElem_cons_succ, List.setIfInBounds_toArray, List.set_cons_zero, List.set_cons_succ])
          refine wpAnyH_done (by kernel_rfl) ?_ _
          exact h _ _ _ _ _ _ _ _ hBg hBs R1
    · have RN := Row.new w1 [.int .i64 0, .int .i64 0] 49
      have hBA := hB1.alloc hB1.size (.cells #[.int .i64 0, .int .i64 0] 49)
      have hBg := hB1.size
      go_simp
      refine hK.out _ _ hBA (fun hHeld => ?_)
      clear hK K
      (try simp only [Act.put, List.getElem_toArray, List.getElem_cons_zero, List.getElem_cons_succ, List.setIfInBounds_toArray, List.set_cons_zero, List.set_cons_succ])
      refine wpAnyH_ready (rs := [4]) (by kernel_rfl) (by simp) ?_
      refine (AllReadyH.cons rfl (fun K hK => ?_) AllReadyH.nil)
      · go_simp
        refine (placeOfV_any a m c _ ha hml).mono ?_
        rintro r w2 ⟨rfl, hb2⟩
        have hB2 := hBA.trans (hb2.mono hBA.size)
        go_wp2_with fail
        refine hK.out _ _ hB2 (fun hHeld => ?_)
        clear hK K
        unfold plV
        have R2 := RN.below hb2 RN.lt
        refine wpAnyH_take (i := 5) (v := (.agg #[.int .i64 p, .int .i64 q])) rfl (by kernel_rfl) (by kernel_rfl) (by kernel_rfl) (fun _ _ _ h => hp _ _ _ _ _ h) (Or.inl ⟨by rfl, ?_⟩) (by assumption) ?_
        · intro w hSw
          (try dsimp only at hSw)
          obtain ⟨f0, ⟨f1, f2, f3, f4, f5, f5b⟩, f6⟩ := HSof.out _ hSw
          go_simp
        (try simp only [Act.put, List.getElem_toArray, List.getElem_cons_zero, List.getElem_cons_succ, List.setIfInBounds_toArray, List.set_cons_zero, List.set_cons_succ])
        have R1 := (R2.set (i := 0) (by decide) (.int .i64 p)).set (i := 1) (by simp) (.int .i64 q)
        obtain ⟨z0, z0f⟩ := R2 0 _ rfl
        obtain ⟨z1, z1f⟩ := R2 1 _ rfl
        have hBs := (hB2.setCell (p := ⟨w1.heap.size, 0, none⟩) hBg (.int .i64 p)).setCell (p := ⟨w1.heap.size, 1, none⟩) hBg (.int .i64 q)
        refine wpAnyH_ready (rs := [7]) (by kernel_rfl) (by simp) ?_
        refine (AllReadyH.cons rfl (fun K hK => ?_) AllReadyH.nil)
        · go_simp
          refine hK.out _ _ hBs (fun hHeld => ?_)
          clear hK K
          (try simp only [Act.put, List.getElem_toArray, List.getElem_cons_zero, List.getElem_cons_succ, List.setIfInBounds_toArray, List.set_cons_zero, List.set_cons_succ])
          refine wpAnyH_done (by kernel_rfl) ?_ _
          exact h _ _ _ _ _ _ _ _ hBg hBs R1
  · have RN := Row.new W.drew [.int .i64 0, .int .i64 0] 49
    have hBA := hB0.alloc hB0.size (.cells #[.int .i64 0, .int .i64 0] 49)
    have hBg := hB0.size
    go_simp
    refine hK.out _ _ hBA (fun hHeld => ?_)
    clear hK K
    (try simp only [Act.put, List.getElem_toArray, List.getElem_cons_zero, List.getElem_cons_succ, List.setIfInBounds_toArray, List.set_cons_zero, List.set_cons_succ])
    have RN' : Row _ W.heap.size _ := RN
    refine wpAnyH_ready (rs := [3]) (by kernel_rfl) (by simp) ?_
    refine (AllReadyH.cons rfl (fun K hK => ?_) AllReadyH.nil)
    · go_simp
      refine (belowV_any hd a m c _).mono ?_
      rintro r w1 ⟨rfl, hb1⟩
      have hB1 := hBA.trans (hb1.mono hBA.size)
      go_wp2_with fail
      refine hK.out _ _ hB1 (fun hHeld => ?_)
      clear hK K
      have R1' := RN'.below hb1 RN'.lt
      refine wpAnyH_ready (rs := [4]) (by kernel_rfl) (by simp) ?_
      refine (AllReadyH.cons rfl (fun K hK => ?_) AllReadyH.nil)
      · go_simp
        refine (placeOfV_any a m c _ ha hml).mono ?_
        rintro r w2 ⟨rfl, hb2⟩
        have hB2 := hB1.trans (hb2.mono hB1.size)
        go_wp2_with fail
        refine hK.out _ _ hB2 (fun hHeld => ?_)
        clear hK K
        unfold plV
        have R2 := R1'.below hb2 R1'.lt
        refine wpAnyH_take (i := 5) (v := (.agg #[.int .i64 p, .int .i64 q])) rfl (by kernel_rfl) (by kernel_rfl) (by kernel_rfl) (fun _ _ _ h => hp _ _ _ _ _ h) (Or.inl ⟨by rfl, ?_⟩) (by assumption) ?_
        · intro w hSw
          (try dsimp only at hSw)
          obtain ⟨f0, ⟨f1, f2, f3, f4, f5, f5b⟩, f6⟩ := HSof.out _ hSw
          go_simp
        (try simp only [Act.put, List.getElem_toArray, List.getElem_cons_zero, List.getElem_cons_succ, List.setIfInBounds_toArray, List.set_cons_zero, List.set_cons_succ])
        have R1 := (R2.set (i := 0) (by decide) (.int .i64 p)).set (i := 1) (by simp) (.int .i64 q)
        obtain ⟨z0, z0f⟩ := R2 0 _ rfl
        obtain ⟨z1, z1f⟩ := R2 1 _ rfl
        have hBs := (hB2.setCell (p := ⟨W.heap.size, 0, none⟩) hBg (.int .i64 p)).setCell (p := ⟨W.heap.size, 1, none⟩) hBg (.int .i64 q)
        refine wpAnyH_ready (rs := [7]) (by kernel_rfl) (by simp) ?_
        refine (AllReadyH.cons rfl (fun K hK => ?_) AllReadyH.nil)
        · go_simp
          refine hK.out _ _ hBs (fun hHeld => ?_)
          clear hK K
          (try simp only [Act.put, List.getElem_toArray, List.getElem_cons_zero, List.getElem_cons_succ, List.setIfInBounds_toArray, List.set_cons_zero, List.set_cons_succ])
          refine wpAnyH_done (by kernel_rfl) ?_ _
          exact h _ _ _ _ _ _ _ _ hBg hBs R1
end Go.Proofs.Ytafhpplhlmlfhaa
/- How many values a value has, by the program: the last region. -/
namespace Go.Proofs.Ytafhpplhlmlfhaa
open Go.RowKit
theorem grownBy_setC (w : World) (b i : Nat) (v : Value) : w.grownBy (w.setCell ⟨b, i, none⟩ v) (some b) :=
  ⟨rfl, rfl, rfl, by simp [World.setCell], fun k _ hk => Below.heap_setCell _ _ _ k (fun e => hk (by rw [e]))⟩
set_option maxRecDepth 100000 in
set_option maxHeartbeats 1000000 in
theorem ex16 {ds : List Deferred} {Q : Exit → Act → World → Prop} {t0 t1 t3 t4 t5 t6 t7 t8 t9 t11 t12 t13 t14 t15 t16 t17 t18 t19 t20 t21 t22 t23 t24 t25 t26 t27 t28 t29 t30 t31 t32 t33 t34 t35 t36 t37 t38 t39 t40 t41 t42 t43 t44 t45 t46 t47 t48 t49 t50 t51 t52 t53 t54 t55 t56 t57 t58 t59 t60 t61 t62 t63 t64 : Value} {W : World} {R C p q : Nat} {u0 u1 : Value}
    (RC : Row W C [.int .i64 p, .int .i64 q]) (RR : Row W R [u0, u1]) (hne : ¬ C = R)
    (hp : ∀ p d v a w, Q (.panic p) (Act.put a d v) w → Q (.panic p) a w) (h : ∀ ws v58 v59 v60 v61 v62 v63 v64, Row ws R [(.int .i64 (upTo2 p 1 : Nat)), (.int .i64 (upTo2 q 1 : Nat))] → W.grownBy ws (some R) → Q .normal { tmps := (t0 :: t1 :: (.pointer (some ⟨R, 0, none⟩)) :: t3 :: t4 :: t5 :: t6 :: t7 :: t8 :: t9 :: (.pointer (some ⟨C, 0, none⟩)) :: t11 :: t12 :: t13 :: t14 :: t15 :: t16 :: t17 :: t18 :: t19 :: t20 :: t21 :: t22 :: t23 :: t24 :: t25 :: t26 :: t27 :: t28 :: t29 :: t30 :: t31 :: t32 :: t33 :: t34 :: t35 :: t36 :: t37 :: t38 :: t39 :: t40 :: t41 :: t42 :: t43 :: t44 :: t45 :: t46 :: t47 :: t48 :: t49 :: t50 :: t51 :: t52 :: t53 :: t54 :: t55 :: t56 :: t57 :: v58 :: v59 :: v60 :: v61 :: v62 :: v63 :: v64 :: []).toArray, defers := ds } ws) :
    Code.wp Try.prog (Code.region 16 #[{ dst := some 58, op := Op.fieldAddr 49 (Operand.tmp 10) 0, type := 0, pos := "l3_tree.go:308", after := #[], guard := none }, { dst := some 59, op := Op.load 3 (Operand.tmp 58), type := 3, pos := "l3_tree.go:308", after := #[{ on := 0, ground := Ground.data }], guard := none }, { dst := some 60, op := Op.call { callee := Callee.value (Operand.func 52), args := #[Operand.tmp 59, Operand.const (Value.int IntKind.i64 1)], argTypes := #[3, 3] }, type := 3, pos := "l3_tree.go:308", after := #[{ on := 1, ground := Ground.data }], guard := none }, { dst := some 61, op := Op.fieldAddr 49 (Operand.tmp 10) 1, type := 0, pos := "l3_tree.go:308", after := #[], guard := none }, { dst := some 62, op := Op.load 3 (Operand.tmp 61), type := 3, pos := "l3_tree.go:308", after := #[{ on := 3, ground := Ground.data }], guard := none }, { dst := some 63, op := Op.call { callee := Callee.value (Operand.func 52), args := #[Operand.tmp 62, Operand.const (Value.int IntKind.i64 1)], argTypes := #[3, 3] }, type := 3, pos := "l3_tree.go:308", after := #[{ on := 4, ground := Ground.data }, { on := 2, ground := Ground.chain }], guard := none }, { dst := some 64, op := Op.build 49 #[(0, Operand.tmp 60), (1, Operand.tmp 63)], type := 49, pos := "l3_tree.go:308", after := #[{ on := 2, ground := Ground.data }, { on := 5, ground := Ground.data }], guard := none }, { dst := none, op := Op.store 49 (Operand.tmp 2) (Operand.tmp 64), type := 0, pos := "l3_tree.go:308", after := #[{ on := 6, ground := Ground.data }, { on := 5, ground := Ground.chain }, { on := 0, ground := Ground.phase }, { on := 1, ground := Ground.phase }, { on := 2, ground := Ground.phase }, { on := 3, ground := Ground.phase }, { on := 4, ground := Ground.phase }, { on := 5, ground := Ground.phase }, { on := 6, ground := Ground.phase }], guard := none }] true) Q { tmps := (t0 :: t1 :: (.pointer (some ⟨R, 0, none⟩)) :: t3 :: t4 :: t5 :: t6 :: t7 :: t8 :: t9 :: (.pointer (some ⟨C, 0, none⟩)) :: t11 :: t12 :: t13 :: t14 :: t15 :: t16 :: t17 :: t18 :: t19 :: t20 :: t21 :: t22 :: t23 :: t24 :: t25 :: t26 :: t27 :: t28 :: t29 :: t30 :: t31 :: t32 :: t33 :: t34 :: t35 :: t36 :: t37 :: t38 :: t39 :: t40 :: t41 :: t42 :: t43 :: t44 :: t45 :: t46 :: t47 :: t48 :: t49 :: t50 :: t51 :: t52 :: t53 :: t54 :: t55 :: t56 :: t57 :: t58 :: t59 :: t60 :: t61 :: t62 :: t63 :: t64 :: []).toArray, defers := ds } W := by
  have hC0 := (RC 0 _ rfl).1
  have hC1 := (RC 1 _ rfl).1
  have hCl := RC.lt
  have hRl := RR.lt
  have HR : Hid (Row W R [u0, u1]) := RR
  have HRC : Hid (Row W C [.int .i64 p, .int .i64 q]) := RC
  have hB0 := (Below.refl W.heap.size W).drew
  have HSof : Hid (∀ w', Below W.heap.size W w' → w'.cell? ⟨C, 0, none⟩ = some (.int .i64 p) ∧ w'.cell? ⟨C, 1, none⟩ = some (.int .i64 q)) := fun w' h => ⟨(h.cell (p := ⟨C, 0, none⟩) hCl).trans hC0, (h.cell (p := ⟨C, 1, none⟩) hCl).trans hC1⟩
  have hS0 := HSof.out _ hB0
  clear RC RR hC0 hC1
  refine wp_region_held_drew (S := fun w' => w'.cell? ⟨C, 0, none⟩ = some (.int .i64 p) ∧ w'.cell? ⟨C, 1, none⟩ = some (.int .i64 q)) (by kernel_rfl) hS0 (fun hHeld => ?_)
  refine wpAnyH_take (i := 0) (v := .pointer (some ⟨C, 0, none⟩)) rfl (by kernel_rfl) (by kernel_rfl) (by kernel_rfl) (fun _ _ _ h => hp _ _ _ _ _ h) (Or.inl ⟨by rfl, ?_⟩) (by assumption) ?_
  · intro w hSw
    (try dsimp only at hSw)
    go_simp
  (try simp only [Act.put, List.getElem_toArray, List.getElem_cons_zero, List.setIfInBounds_toArray, List.set_cons_zero, List.set_cons_succ])
  refine wpAnyH_take (i := 1) (v := .int .i64 p) rfl (by kernel_rfl) (by kernel_rfl) (by kernel_rfl) (fun _ _ _ h => hp _ _ _ _ _ h) (Or.inl ⟨by rfl, ?_⟩) (by assumption) ?_
  · intro w hSw
    (try dsimp only at hSw)
    go_simp
  (try simp only [Act.put, List.getElem_toArray, List.getElem_cons_zero, List.getElem_cons_succ, List.setIfInBounds_toArray, List.set_cons_zero, List.set_cons_succ])
  refine wpAnyH_take (i := 3) (v := .pointer (some ⟨C, 1, none⟩)) rfl (by kernel_rfl) (by kernel_rfl) (by kernel_rfl) (fun _ _ _ h => hp _ _ _ _ _ h) (Or.inl ⟨by rfl, ?_⟩) (by assumption) ?_
  · intro w hSw
    (try dsimp only at hSw)
    go_simp
  (try simp only [Act.put, List.getElem_toArray, List.getElem_cons_zero, List.getElem_cons_succ, List.setIfInBounds_toArray, List.set_cons_zero, List.set_cons_succ])
  refine wpAnyH_take (i := 4) (v := .int .i64 q) rfl (by kernel_rfl) (by kernel_rfl) (by kernel_rfl) (fun _ _ _ h => hp _ _ _ _ _ h) (Or.inl ⟨by rfl, ?_⟩) (by assumption) ?_
  · intro w hSw
    (try dsimp only at hSw)
    go_simp
  (try simp only [Act.put, List.getElem_toArray, List.getElem_cons_zero, List.getElem_cons_succ, List.setIfInBounds_toArray, List.set_cons_zero, List.set_cons_succ])
  refine wpAnyH_ready (rs := [2]) (by kernel_rfl) (by simp) ?_
  refine (AllReadyH.cons rfl (fun K hK => ?_) AllReadyH.nil)
  · go_simp
    refine (sumUpTo_any p 1 _ (by omega)).mono ?_
    rintro r w1 ⟨rfl, hb1⟩
    have hB1 := hB0.trans (hb1.mono hB0.size)
    go_wp2_with fail
    refine hK.out _ _ (HSof.out _ hB1) (fun hHeld => ?_)
    clear hK K
    refine wpAnyH_ready (rs := [5]) (by kernel_rfl) (by simp) ?_
    refine (AllReadyH.cons rfl (fun K hK => ?_) AllReadyH.nil)
    · go_simp
      refine (sumUpTo_any q 1 _ (by omega)).mono ?_
      rintro r w2 ⟨rfl, hb2⟩
      have hB2 := hB1.trans (hb2.mono hB1.size)
      go_wp2_with fail
      refine hK.out _ _ (HSof.out _ hB2) (fun hHeld => ?_)
      clear hK K
      refine wpAnyH_take (i := 6) (v := .agg #[(.int .i64 (upTo2 p 1 : Nat)), (.int .i64 (upTo2 q 1 : Nat))]) rfl (by kernel_rfl) (by kernel_rfl) (by kernel_rfl) (fun _ _ _ h => hp _ _ _ _ _ h) (Or.inl ⟨by rfl, ?_⟩) (by assumption) ?_
      · intro w hSw
        (try dsimp only at hSw)
        go_simp
      (try simp only [Act.put, List.getElem_toArray, List.getElem_cons_zero, List.getElem_cons_succ, List.setIfInBounds_toArray, List.set_cons_zero, List.set_cons_succ])
      have R2 := HR.out.below hB2 hRl
      obtain ⟨z0, z0f⟩ := R2 0 _ rfl
      obtain ⟨z1, z1f⟩ := R2 1 _ rfl
      have R3 := (R2.set (i := 0) (by simp) (.int .i64 (upTo2 p 1 : Nat))).set (i := 1) (by simp) (.int .i64 (upTo2 q 1 : Nat))
      have hS3 : (fun w' => w'.cell? ⟨C, 0, none⟩ = some (.int .i64 p) ∧ w'.cell? ⟨C, 1, none⟩ = some (.int .i64 q)) ((w2.setCell ⟨R, 0, none⟩ (.int .i64 (upTo2 p 1 : Nat))).setCell ⟨R, 1, none⟩ (.int .i64 (upTo2 q 1 : Nat))) := by
        have h2 := ((HRC.out.below hB2 hCl).setOther hne 0 (.int .i64 (upTo2 p 1 : Nat))).setOther hne 1 (.int .i64 (upTo2 q 1 : Nat))
        exact ⟨(h2 0 _ rfl).1, (h2 1 _ rfl).1⟩
      have hG : W.grownBy ((w2.setCell ⟨R, 0, none⟩ (.int .i64 (upTo2 p 1 : Nat))).setCell ⟨R, 1, none⟩ (.int .i64 (upTo2 q 1 : Nat))) (some R) := by
        refine grown_trans ⟨hB2.os, hB2.tape, hB2.output, hB2.size, fun k hk _ => hB2.block k hk⟩ (grown_trans (b := w2.setCell ⟨R, 0, none⟩ (.int .i64 (upTo2 p 1 : Nat))) ?_ ?_)
        · exact grownBy_setC _ _ _ _
        · exact grownBy_setC _ _ _ _
      refine wpAnyH_ready (rs := [7]) (by kernel_rfl) (by simp) ?_
      refine (AllReadyH.cons rfl (fun K hK => ?_) AllReadyH.nil)
      · go_simp
        refine hK.out _ _ hS3 (fun hHeld => ?_)
        clear hK K
        refine wpAnyH_done (by kernel_rfl) ?_ _
        exact h _ _ _ _ _ _ _ _ R3 hG
end Go.Proofs.Ytafhpplhlmlfhaa
/- How many values a value has and how deep it is, by the program: what the map holds; how deep the first so many of a list are. -/
namespace Go.Proofs.Ytafhpplhlmlfhaa
open Go.RowKit
def extV (x : Li) : Value := .agg #[.int .i64 x.F.size, .int .i64 x.F.deep]
def exts' : List Li → List (Pl × Value)
  | [] => []
  | x :: t => putL x.pl (extV x) (exts' t)
/-- what the map holds behind those lists -/
def exts (pre : List Li) : List (Pl × Value) := exts' pre.reverse
theorem exts_snoc (pre : List Li) (x : Li) : exts (pre ++ [x]) = putL x.pl (extV x) (exts pre) := by
  unfold exts
  rw [List.reverse_append]
  rfl
theorem exts_keys' : ∀ (l : List Li) (q : Pl × Value), q ∈ exts' l → ∃ y ∈ l, y.pl = q.1 := by
  intro l
  induction l with
  | nil => intro q hq; exact absurd hq List.not_mem_nil
  | cons x t ih =>
    intro q hq
    rcases putL_keys _ _ _ q hq with e | hq
    · exact ⟨x, List.mem_cons_self, e.symm⟩
    · obtain ⟨y, hy, e⟩ := ih q hq
      exact ⟨y, List.mem_cons_of_mem _ hy, e⟩
theorem exts_get' {w : World} {x : Li} (hx : x.Ok w) : ∀ (l : List Li), (∀ y ∈ l, y.Ok w) → (∃ z ∈ l, z.pl = x.pl) → getL x.pl (exts' l) = some (extV x) := by
  intro l
  induction l with
  | nil => rintro _ ⟨z, hz, _⟩; exact absurd hz List.not_mem_nil
  | cons y t ih =>
    rintro hok ⟨z, hz, e⟩
    show getL x.pl (putL y.pl (extV y) (exts' t)) = _
    rw [getL_put]
    by_cases h : x.pl = y.pl
    · rw [if_pos h]
      have hF := Li.F_inj hx (hok y List.mem_cons_self) h
      unfold extV
      rw [hF]
    · rw [if_neg h]
      refine ih (fun y hy => hok y (List.mem_cons_of_mem _ hy)) ⟨z, ?_, e⟩
      rcases List.mem_cons.1 hz with rfl | hz
      · exact absurd e.symm h
      · exact hz
theorem exts_keys {w : World} {pre : List Li} (hok : ∀ y ∈ pre, y.Ok w) : ∀ q ∈ exts pre, PlOk w q.1 := fun q hq => by
  obtain ⟨y, hy, e⟩ := exts_keys' _ q hq
  rw [← e]
  exact (hok y (List.mem_reverse.1 hy)).2.1
theorem exts_get {w : World} {pre : List Li} {x : Li} (hx : x.Ok w) (hok : ∀ y ∈ pre, y.Ok w) (h : ∃ z ∈ pre, z.pl = x.pl) : getL x.pl (exts pre) = some (extV x) := by
  obtain ⟨z, hz, e⟩ := h
  exact exts_get' hx _ (fun y hy => hok y (List.mem_reverse.1 hy)) ⟨z, List.mem_reverse.2 hz, e⟩
/-- how deep the first so many are -/
def Vo.dpTo (F : Vo) : Nat → Nat
  | 0 => 0
  | n + 1 => max (F.dpTo n) ((F.kidsAt n).deep + 1)
theorem dpTo_next (hd : Hd) (a : Option Addr) (c : Nat) (kids next : Vo) (n : Nat) : (Vo.cons hd a c kids next).dpTo (n + 1) = max (kids.deep + 1) (next.dpTo n) := by
  induction n with
  | zero => show max 0 (kids.deep + 1) = max (kids.deep + 1) 0; omega
  | succ n ih => show max ((Vo.cons hd a c kids next).dpTo (n + 1)) ((next.kidsAt n).deep + 1) = max (kids.deep + 1) (max (next.dpTo n) ((next.kidsAt n).deep + 1)); rw [ih]; omega
theorem dpTo_len (F : Vo) : F.dpTo F.len = F.deep := by
  induction F with
  | nil => rfl
  | cons hd a c kids next _ ih => show (Vo.cons hd a c kids next).dpTo (next.len + 1) = max (kids.deep + 1) next.deep; rw [dpTo_next, ih]
theorem upTo2_small {x y : Nat} (h : x + y ≤ 9223372036854775807) : upTo2 x y = x + y := if_neg (by omega)
theorem listsOf_any (hd : Hd) (a : Option Addr) (n c : Nat) (w : World) :
    Calls Try.prog 50 #[valV hd a n c] w fun r w' => r = .returned (.func (.func 81) #[] #[.pointer (some ⟨w.heap.size, 0, none⟩)]) ∧ w' = w.alloc (.cells #[.int .i64 hd.k, .int .i64 hd.m, .int .i64 hd.e, .string hd.t, .slice a n c, .slice hd.na hd.ns.length hd.nc] 28) := by
  go_enter Try.func50, Try.ntmps50
  go_wp2_with fail
  go_ret
  exact ⟨rfl, rfl⟩
end Go.Proofs.Ytafhpplhlmlfhaa
