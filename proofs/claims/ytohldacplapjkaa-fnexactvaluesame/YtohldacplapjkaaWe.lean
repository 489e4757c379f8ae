/- ValueSame of the specification. -/
import Derived.Test.YtohldacplapjkaaWc
import Derived.Test.YtohldacplapjkaaSe
namespace Go.Proofs.Ytohldacplapjkaa
open Go.RowKit
set_option maxRecDepth 100000 in
set_option maxHeartbeats 1000000 in
theorem vs6 {Q : Exit → Act → World → Prop} {t0 t1 t4 t6 t7 t8 t9 t10 t11 t12 t13 t14 t15 t16 t17 t18 t19 t20 t21 t22 t23 t24 t25 t26 t27 t28 t29 t30 t31 t32 t33 t34 t35 t36 t37 t38 t39 t40 t41 t42 t43 t44 t45 t46 t47 t48 t49 t50 t51 t52 t53 t54 t55 t56 t57 t58 t59 t60 t61 t62 t63 t64 t65 t66 t67 t68 t69 t70 t71 t72 t73 t74 t75 t76 t77 t78 t79 t80 : Value} {W : World} {b o n c b2 o2 n2 c2 j x4 y4 : Nat} {s s2 : ByteArray} {q : Bool}
    (hj : (j : Int) < (n : Int)) (hj2 : (j : Int) < (n2 : Int)) (hbx : W.cell? ⟨x4, 5, none⟩ = some (.slice (some ⟨b, o, none⟩) n c)) (hby : W.cell? ⟨y4, 5, none⟩ = some (.slice (some ⟨b2, o2, none⟩) n2 c2)) (h1 : W.cell? ⟨b, o + j, none⟩ = some (.string s)) (h2 : W.cell? ⟨b2, o2 + j, none⟩ = some (.string s2)) (hq : (s.toList == s2.toList) = !q)
    (hp : ∀ p d v a w, Q (.panic p) (Act.put a d v) w → Q (.panic p) a w) (h : ∀ ws v51 v52 v53 v54 v55 v56 v57 v58 v59 v60, Below W.heap.size W ws → Q .normal { tmps := (t0 :: t1 :: (.pointer (some ⟨x4, 0, none⟩)) :: (.pointer (some ⟨y4, 0, none⟩)) :: t4 :: (.int .i64 (j : Nat)) :: t6 :: t7 :: t8 :: t9 :: t10 :: t11 :: t12 :: t13 :: t14 :: t15 :: t16 :: t17 :: t18 :: t19 :: t20 :: t21 :: t22 :: t23 :: t24 :: t25 :: t26 :: t27 :: t28 :: t29 :: t30 :: t31 :: t32 :: t33 :: t34 :: t35 :: t36 :: t37 :: t38 :: t39 :: t40 :: t41 :: t42 :: t43 :: t44 :: t45 :: t46 :: t47 :: t48 :: t49 :: t50 :: v51 :: v52 :: v53 :: v54 :: v55 :: v56 :: v57 :: v58 :: v59 :: v60 :: .bool q :: t62 :: t63 :: t64 :: t65 :: t66 :: t67 :: t68 :: t69 :: t70 :: t71 :: t72 :: t73 :: t74 :: t75 :: t76 :: t77 :: t78 :: t79 :: t80 :: []).toArray, defers := [] } ws) :
    Code.wp Try.prog (Code.region 6 #[{ dst := some 51, op := Op.fieldAddr 33 (Operand.tmp 2) 4, type := 0, pos := "l7_value.go:77", after := #[], guard := none }, { dst := some 52, op := Op.load 25 (Operand.tmp 51), type := 25, pos := "l7_value.go:77", after := #[{ on := 0, ground := Ground.data }], guard := none }, { dst := some 53, op := Op.move (Operand.tmp 5), type := 3, pos := "l7_value.go:77", after := #[], guard := none }, { dst := some 54, op := Op.indexAddr 25 (Operand.tmp 52) (Operand.tmp 53), type := 0, pos := "l7_value.go:77", after := #[{ on := 1, ground := Ground.data }, { on := 2, ground := Ground.data }], guard := none }, { dst := some 55, op := Op.load 9 (Operand.tmp 54), type := 9, pos := "l7_value.go:77", after := #[{ on := 3, ground := Ground.data }], guard := none }, { dst := some 56, op := Op.fieldAddr 33 (Operand.tmp 3) 4, type := 0, pos := "l7_value.go:77", after := #[], guard := none }, { dst := some 57, op := Op.load 25 (Operand.tmp 56), type := 25, pos := "l7_value.go:77", after := #[{ on := 5, ground := Ground.data }], guard := none }, { dst := some 58, op := Op.move (Operand.tmp 5), type := 3, pos := "l7_value.go:77", after := #[], guard := none }, { dst := some 59, op := Op.indexAddr 25 (Operand.tmp 57) (Operand.tmp 58), type := 0, pos := "l7_value.go:77", after := #[{ on := 6, ground := Ground.data }, { on := 7, ground := Ground.data }], guard := none }, { dst := some 60, op := Op.load 9 (Operand.tmp 59), type := 9, pos := "l7_value.go:77", after := #[{ on := 8, ground := Ground.data }], guard := none }, { dst := some 61, op := Op.binOp BinOp.neq 9 (Operand.tmp 55) (Operand.tmp 60) 9, type := 4, pos := "l7_value.go:77", after := #[{ on := 4, ground := Ground.data }, { on := 9, ground := Ground.data }], guard := none }] true) Q { tmps := (t0 :: t1 :: (.pointer (some ⟨x4, 0, none⟩)) :: (.pointer (some ⟨y4, 0, none⟩)) :: t4 :: (.int .i64 (j : Nat)) :: t6 :: t7 :: t8 :: t9 :: t10 :: t11 :: t12 :: t13 :: t14 :: t15 :: t16 :: t17 :: t18 :: t19 :: t20 :: t21 :: t22 :: t23 :: t24 :: t25 :: t26 :: t27 :: t28 :: t29 :: t30 :: t31 :: t32 :: t33 :: t34 :: t35 :: t36 :: t37 :: t38 :: t39 :: t40 :: t41 :: t42 :: t43 :: t44 :: t45 :: t46 :: t47 :: t48 :: t49 :: t50 :: t51 :: t52 :: t53 :: t54 :: t55 :: t56 :: t57 :: t58 :: t59 :: t60 :: t61 :: t62 :: t63 :: t64 :: t65 :: t66 :: t67 :: t68 :: t69 :: t70 :: t71 :: t72 :: t73 :: t74 :: t75 :: t76 :: t77 :: t78 :: t79 :: t80 :: []).toArray, defers := [] } W := by
  have hS0 : (W.drew.cell? ⟨x4, 5, none⟩ = some (.slice (some ⟨b, o, none⟩) n c) ∧ W.drew.cell? ⟨y4, 5, none⟩ = some (.slice (some ⟨b2, o2, none⟩) n2 c2)) ∧ W.drew.cell? ⟨b, o + j, none⟩ = some (.string s) ∧ W.drew.cell? ⟨b2, o2 + j, none⟩ = some (.string s2) := ⟨⟨hbx, hby⟩, h1, h2⟩
  refine wp_region_held_drew (S := fun w' => (w'.cell? ⟨x4, 5, none⟩ = some (.slice (some ⟨b, o, none⟩) n c) ∧ w'.cell? ⟨y4, 5, none⟩ = some (.slice (some ⟨b2, o2, none⟩) n2 c2)) ∧ w'.cell? ⟨b, o + j, none⟩ = some (.string s) ∧ w'.cell? ⟨b2, o2 + j, none⟩ = some (.string s2)) (by kernel_rfl) hS0 (fun hHeld => ?_)
  refine wpAnyH_take (i := 0) (v := .pointer (some ⟨x4, 5, none⟩)) rfl (by kernel_rfl) (by kernel_rfl) (by kernel_rfl) (fun _ _ _ h => hp _ _ _ _ _ h) (Or.inl ⟨by rfl, ?_⟩) (by assumption) ?_
  · intro w hSw
    (try dsimp only at hSw)
    go_simp
  (try simp only [Act.put, List.getElem_toArray, List.getElem_cons_zero, List.setIfInBounds_toArray, List.set_cons_zero, List.set_cons_succ])
  refine wpAnyH_take (i := 1) (v := .slice (some ⟨b, o, none⟩) n c) rfl (by kernel_rfl) (by kernel_rfl) (by kernel_rfl) (fun _ _ _ h => hp _ _ _ _ _ h) (Or.inl ⟨by rfl, ?_⟩) (by assumption) ?_
  · intro w hSw
    (try dsimp only at hSw)
    go_simp
  (try simp only [Act.put, List.getElem_toArray, List.getElem_cons_zero, List.getElem_cons_succ, List.setIfInBounds_toArray, List.set_cons_zero, List.set_cons_succ])
  refine wpAnyH_take (i := 2) (v := .int .i64 (j : Nat)) rfl (by kernel_rfl) (by kernel_rfl) (by kernel_rfl) (fun _ _ _ h => hp _ _ _ _ _ h) (Or.inl ⟨by rfl, ?_⟩) (by assumption) ?_
  · intro w hSw
    (try dsimp only at hSw)
    go_simp
  (try simp only [Act.put, List.getElem_toArray, List.getElem_cons_zero, List.getElem_cons_succ, List.setIfInBounds_toArray, List.set_cons_zero, List.set_cons_succ])
  refine wpAnyH_take (i := 3) (v := .pointer (some ⟨b, o + j, none⟩)) rfl (by kernel_rfl) (by kernel_rfl) (by kernel_rfl) (fun _ _ _ h => hp _ _ _ _ _ h) (Or.inl ⟨by rfl, ?_⟩) (by assumption) ?_
  · intro w hSw
    (try dsimp only at hSw)
    go_simp
  (try simp only [Act.put, List.getElem_toArray, List.getElem_cons_zero, List.getElem_cons_succ, List.setIfInBounds_toArray, List.set_cons_zero, List.set_cons_succ])
  refine wpAnyH_take (i := 4) (v := .string s) rfl (by kernel_rfl) (by kernel_rfl) (by kernel_rfl) (fun _ _ _ h => hp _ _ _ _ _ h) (Or.inl ⟨by rfl, ?_⟩) (by assumption) ?_
  · intro w hSw
    (try dsimp only at hSw)
    go_simp
  (try simp only [Act.put, List.getElem_toArray, List.getElem_cons_zero, List.getElem_cons_succ, List.setIfInBounds_toArray, List.set_cons_zero, List.set_cons_succ])
  refine wpAnyH_take (i := 5) (v := .pointer (some ⟨y4, 5, none⟩)) rfl (by kernel_rfl) (by kernel_rfl) (by kernel_rfl) (fun _ _ _ h => hp _ _ _ _ _ h) (Or.inl ⟨by rfl, ?_⟩) (by assumption) ?_
  · intro w hSw
    (try dsimp only at hSw)
    go_simp
  (try simp only [Act.put, List.getElem_toArray, List.getElem_cons_zero, List.getElem_cons_succ, List.setIfInBounds_toArray, List.set_cons_zero, List.set_cons_succ])
  refine wpAnyH_take (i := 6) (v := .slice (some ⟨b2, o2, none⟩) n2 c2) rfl (by kernel_rfl) (by kernel_rfl) (by kernel_rfl) (fun _ _ _ h => hp _ _ _ _ _ h) (Or.inl ⟨by rfl, ?_⟩) (by assumption) ?_
  · intro w hSw
    (try dsimp only at hSw)
    go_simp
  (try simp only [Act.put, List.getElem_toArray, List.getElem_cons_zero, List.getElem_cons_succ, List.setIfInBounds_toArray, List.set_cons_zero, List.set_cons_succ])
  refine wpAnyH_take (i := 7) (v := .int .i64 (j : Nat)) rfl (by kernel_rfl) (by kernel_rfl) (by kernel_rfl) (fun _ _ _ h => hp _ _ _ _ _ h) (Or.inl ⟨by rfl, ?_⟩) (by assumption) ?_
  · intro w hSw
    (try dsimp only at hSw)
    go_simp
  (try simp only [Act.put, List.getElem_toArray, List.getElem_cons_zero, List.getElem_cons_succ, List.setIfInBounds_toArray, List.set_cons_zero, List.set_cons_succ])
  refine wpAnyH_take (i := 8) (v := .pointer (some ⟨b2, o2 + j, none⟩)) rfl (by kernel_rfl) (by kernel_rfl) (by kernel_rfl) (fun _ _ _ h => hp _ _ _ _ _ h) (Or.inl ⟨by rfl, ?_⟩) (by assumption) ?_
  · intro w hSw
    (try dsimp only at hSw)
    go_simp
  (try simp only [Act.put, List.getElem_toArray, List.getElem_cons_zero, List.getElem_cons_succ, List.setIfInBounds_toArray, List.set_cons_zero, List.set_cons_succ])
  refine wpAnyH_take (i := 9) (v := .string s2) rfl (by kernel_rfl) (by kernel_rfl) (by kernel_rfl) (fun _ _ _ h => hp _ _ _ _ _ h) (Or.inl ⟨by rfl, ?_⟩) (by assumption) ?_
  · intro w hSw
    (try dsimp only at hSw)
    go_simp
  (try simp only [Act.put, List.getElem_toArray, List.getElem_cons_zero, List.getElem_cons_succ, List.setIfInBounds_toArray, List.set_cons_zero, List.set_cons_succ])
  refine wpAnyH_take (i := 10) (v := .bool q) rfl (by kernel_rfl) (by kernel_rfl) (by kernel_rfl) (fun _ _ _ h => hp _ _ _ _ _ h) (Or.inl ⟨by rfl, ?_⟩) (by assumption) ?_
  · intro w hSw
    (try dsimp only at hSw)
    go_simp
  (try simp only [Act.put, List.getElem_toArray, List.getElem_cons_zero, List.getElem_cons_succ, List.setIfInBounds_toArray, List.set_cons_zero, List.set_cons_succ])
  refine wpAnyH_done (by kernel_rfl) ?_ _
  exact h _ _ _ _ _ _ _ _ _ _ _ ((Below.refl W.heap.size W).drew)
set_option maxRecDepth 100000 in
set_option maxHeartbeats 1000000 in
theorem vs11 {Q : Exit → Act → World → Prop} {t0 t1 t4 t5 t7 t8 t9 t10 t11 t12 t13 t14 t15 t16 t17 t18 t19 t20 t21 t22 t23 t24 t25 t26 t27 t28 t29 t30 t31 t32 t33 t34 t35 t36 t37 t38 t39 t40 t41 t42 t43 t44 t45 t46 t47 t48 t49 t50 t51 t52 t53 t54 t55 t56 t57 t58 t59 t60 t61 t62 t63 t64 t65 t66 t67 t68 t69 t70 t71 t72 t73 t74 t75 t76 t77 t78 t79 t80 : Value} {W : World} {b o n c b2 o2 n2 c2 j nx cx ny cy : Nat} {hx hy : Hd} {ax ay : Option Addr} {P : Bool → Prop} {x4 y4 : Nat}
    (hj : (j : Int) < (n : Int)) (hj2 : (j : Int) < (n2 : Int)) (hbx : W.cell? ⟨x4, 4, none⟩ = some (.slice (some ⟨b, o, none⟩) n c)) (hby : W.cell? ⟨y4, 4, none⟩ = some (.slice (some ⟨b2, o2, none⟩) n2 c2)) (h1 : Cells6 W b (o + j * 6) hx (.slice ax nx cx)) (h2 : Cells6 W b2 (o2 + j * 6) hy (.slice ay ny cy)) (hcall : ∀ W', Below W.heap.size W W' → Calls Try.prog 11 #[valV hx ax nx cx, valV hy ay ny cy] W' fun r w' => (∃ q : Bool, r = .returned (.bool q) ∧ P q) ∧ Below W'.heap.size W' w')
    (hp : ∀ p d v a w, Q (.panic p) (Act.put a d v) w → Q (.panic p) a w) (h : ∀ ws q v69 v70 v71 v72 v73 v74 v75 v76 v77 v78 v79, P q → Below W.heap.size W ws → Q .normal { tmps := (t0 :: t1 :: (.pointer (some ⟨x4, 0, none⟩)) :: (.pointer (some ⟨y4, 0, none⟩)) :: t4 :: t5 :: (.int .i64 (j : Nat)) :: t7 :: t8 :: t9 :: t10 :: t11 :: t12 :: t13 :: t14 :: t15 :: t16 :: t17 :: t18 :: t19 :: t20 :: t21 :: t22 :: t23 :: t24 :: t25 :: t26 :: t27 :: t28 :: t29 :: t30 :: t31 :: t32 :: t33 :: t34 :: t35 :: t36 :: t37 :: t38 :: t39 :: t40 :: t41 :: t42 :: t43 :: t44 :: t45 :: t46 :: t47 :: t48 :: t49 :: t50 :: t51 :: t52 :: t53 :: t54 :: t55 :: t56 :: t57 :: t58 :: t59 :: t60 :: t61 :: t62 :: t63 :: t64 :: t65 :: t66 :: t67 :: t68 :: v69 :: v70 :: v71 :: v72 :: v73 :: v74 :: v75 :: v76 :: v77 :: v78 :: v79 :: .bool (!q) :: []).toArray, defers := [] } ws) :
    Code.wp Try.prog (Code.region 11 #[{ dst := some 69, op := Op.fieldAddr 33 (Operand.tmp 2) 3, type := 0, pos := "l7_value.go:82", after := #[], guard := none }, { dst := some 70, op := Op.load 31 (Operand.tmp 69), type := 31, pos := "l7_value.go:82", after := #[{ on := 0, ground := Ground.data }], guard := none }, { dst := some 71, op := Op.move (Operand.tmp 6), type := 3, pos := "l7_value.go:82", after := #[], guard := none }, { dst := some 72, op := Op.indexAddr 31 (Operand.tmp 70) (Operand.tmp 71), type := 0, pos := "l7_value.go:82", after := #[{ on := 1, ground := Ground.data }, { on := 2, ground := Ground.data }], guard := none }, { dst := some 73, op := Op.load 33 (Operand.tmp 72), type := 33, pos := "l7_value.go:82", after := #[{ on := 3, ground := Ground.data }], guard := none }, { dst := some 74, op := Op.fieldAddr 33 (Operand.tmp 3) 3, type := 0, pos := "l7_value.go:82", after := #[], guard := none }, { dst := some 75, op := Op.load 31 (Operand.tmp 74), type := 31, pos := "l7_value.go:82", after := #[{ on := 5, ground := Ground.data }], guard := none }, { dst := some 76, op := Op.move (Operand.tmp 6), type := 3, pos := "l7_value.go:82", after := #[], guard := none }, { dst := some 77, op := Op.indexAddr 31 (Operand.tmp 75) (Operand.tmp 76), type := 0, pos := "l7_value.go:82", after := #[{ on := 6, ground := Ground.data }, { on := 7, ground := Ground.data }], guard := none }, { dst := some 78, op := Op.load 33 (Operand.tmp 77), type := 33, pos := "l7_value.go:82", after := #[{ on := 8, ground := Ground.data }], guard := none }, { dst := some 79, op := Op.call { callee := Callee.value (Operand.func 11), args := #[Operand.tmp 73, Operand.tmp 78], argTypes := #[33, 33] }, type := 4, pos := "l7_value.go:82", after := #[{ on := 4, ground := Ground.data }, { on := 9, ground := Ground.data }], guard := none }, { dst := some 80, op := Op.unOp UnOp.not 4 (Operand.tmp 79), type := 4, pos := "l7_value.go:82", after := #[{ on := 10, ground := Ground.data }], guard := none }] true) Q { tmps := (t0 :: t1 :: (.pointer (some ⟨x4, 0, none⟩)) :: (.pointer (some ⟨y4, 0, none⟩)) :: t4 :: t5 :: (.int .i64 (j : Nat)) :: t7 :: t8 :: t9 :: t10 :: t11 :: t12 :: t13 :: t14 :: t15 :: t16 :: t17 :: t18 :: t19 :: t20 :: t21 :: t22 :: t23 :: t24 :: t25 :: t26 :: t27 :: t28 :: t29 :: t30 :: t31 :: t32 :: t33 :: t34 :: t35 :: t36 :: t37 :: t38 :: t39 :: t40 :: t41 :: t42 :: t43 :: t44 :: t45 :: t46 :: t47 :: t48 :: t49 :: t50 :: t51 :: t52 :: t53 :: t54 :: t55 :: t56 :: t57 :: t58 :: t59 :: t60 :: t61 :: t62 :: t63 :: t64 :: t65 :: t66 :: t67 :: t68 :: t69 :: t70 :: t71 :: t72 :: t73 :: t74 :: t75 :: t76 :: t77 :: t78 :: t79 :: t80 :: []).toArray, defers := [] } W := by
  have HSof : Hid (∀ w', Below W.heap.size W w' → (w'.cell? ⟨x4, 4, none⟩ = some (.slice (some ⟨b, o, none⟩) n c) ∧ w'.cell? ⟨y4, 4, none⟩ = some (.slice (some ⟨b2, o2, none⟩) n2 c2)) ∧ C6 w' b (o + j * 6) hx (.slice ax nx cx) ∧ C6 w' b2 (o2 + j * 6) hy (.slice ay ny cy)) := fun w' h => ⟨⟨(h.cell (p := ⟨x4, 4, none⟩) (World.block_lt_of_cell? _ _ hbx)).trans hbx, (h.cell (p := ⟨y4, 4, none⟩) (World.block_lt_of_cell? _ _ hby)).trans hby⟩, h1.grow h, h2.grow h⟩
  have hS0 := HSof.out _ ((Below.refl _ W).drew)
  clear h1 h2 hbx hby
  refine wp_region_held_drew (S := fun w' => (w'.cell? ⟨x4, 4, none⟩ = some (.slice (some ⟨b, o, none⟩) n c) ∧ w'.cell? ⟨y4, 4, none⟩ = some (.slice (some ⟨b2, o2, none⟩) n2 c2)) ∧ C6 w' b (o + j * 6) hx (.slice ax nx cx) ∧ C6 w' b2 (o2 + j * 6) hy (.slice ay ny cy)) (by kernel_rfl) hS0 (fun hHeld => ?_)
  refine wpAnyH_take (i := 0) (v := .pointer (some ⟨x4, 4, none⟩)) rfl (by kernel_rfl) (by kernel_rfl) (by kernel_rfl) (fun _ _ _ h => hp _ _ _ _ _ h) (Or.inl ⟨by rfl, ?_⟩) (by assumption) ?_
  · intro w hSw
    (try dsimp only at hSw)
    go_simp
  (try simp only [Act.put, List.getElem_toArray, List.getElem_cons_zero, List.setIfInBounds_toArray, List.set_cons_zero, List.set_cons_succ])
  refine wpAnyH_take (i := 1) (v := .slice (some ⟨b, o, none⟩) n c) rfl (by kernel_rfl) (by kernel_rfl) (by kernel_rfl) (fun _ _ _ h => hp _ _ _ _ _ h) (Or.inl ⟨by rfl, ?_⟩) (by assumption) ?_
  · intro w hSw
    (try dsimp only at hSw)
    go_simp
  (try simp only [Act.put, List.getElem_toArray, List.getElem_cons_zero, List.getElem_cons_succ, List.setIfInBounds_toArray, List.set_cons_zero, List.set_cons_succ])
  refine wpAnyH_take (i := 2) (v := .int .i64 (j : Nat)) rfl (by kernel_rfl) (by kernel_rfl) (by kernel_rfl) (fun _ _ _ h => hp _ _ _ _ _ h) (Or.inl ⟨by rfl, ?_⟩) (by assumption) ?_
  · intro w hSw
    (try dsimp only at hSw)
    go_simp
  (try simp only [Act.put, List.getElem_toArray, List.getElem_cons_zero, List.getElem_cons_succ, List.setIfInBounds_toArray, List.set_cons_zero, List.set_cons_succ])
  refine wpAnyH_take (i := 3) (v := .pointer (some ⟨b, o + j * 6, none⟩)) rfl (by kernel_rfl) (by kernel_rfl) (by kernel_rfl) (fun _ _ _ h => hp _ _ _ _ _ h) (Or.inl ⟨by rfl, ?_⟩) (by assumption) ?_
  · intro w hSw
    (try dsimp only at hSw)
    go_simp
  (try simp only [Act.put, List.getElem_toArray, List.getElem_cons_zero, List.getElem_cons_succ, List.setIfInBounds_toArray, List.set_cons_zero, List.set_cons_succ])
  refine wpAnyH_take (i := 4) (v := valV hx ax nx cx) rfl (by kernel_rfl) (by kernel_rfl) (by kernel_rfl) (fun _ _ _ h => hp _ _ _ _ _ h) (Or.inl ⟨by rfl, ?_⟩) (by assumption) ?_
  · intro w hSw
    (try dsimp only at hSw)
    go_simp
  (try simp only [Act.put, List.getElem_toArray, List.getElem_cons_zero, List.getElem_cons_succ, List.setIfInBounds_toArray, List.set_cons_zero, List.set_cons_succ])
  refine wpAnyH_take (i := 5) (v := .pointer (some ⟨y4, 4, none⟩)) rfl (by kernel_rfl) (by kernel_rfl) (by kernel_rfl) (fun _ _ _ h => hp _ _ _ _ _ h) (Or.inl ⟨by rfl, ?_⟩) (by assumption) ?_
  · intro w hSw
    (try dsimp only at hSw)
    go_simp
  (try simp only [Act.put, List.getElem_toArray, List.getElem_cons_zero, List.getElem_cons_succ, List.setIfInBounds_toArray, List.set_cons_zero, List.set_cons_succ])
  refine wpAnyH_take (i := 6) (v := .slice (some ⟨b2, o2, none⟩) n2 c2) rfl (by kernel_rfl) (by kernel_rfl) (by kernel_rfl) (fun _ _ _ h => hp _ _ _ _ _ h) (Or.inl ⟨by rfl, ?_⟩) (by assumption) ?_
  · intro w hSw
    (try dsimp only at hSw)
    go_simp
  (try simp only [Act.put, List.getElem_toArray, List.getElem_cons_zero, List.getElem_cons_succ, List.setIfInBounds_toArray, List.set_cons_zero, List.set_cons_succ])
  refine wpAnyH_take (i := 7) (v := .int .i64 (j : Nat)) rfl (by kernel_rfl) (by kernel_rfl) (by kernel_rfl) (fun _ _ _ h => hp _ _ _ _ _ h) (Or.inl ⟨by rfl, ?_⟩) (by assumption) ?_
  · intro w hSw
    (try dsimp only at hSw)
    go_simp
  (try simp only [Act.put, List.getElem_toArray, List.getElem_cons_zero, List.getElem_cons_succ, List.setIfInBounds_toArray, List.set_cons_zero, List.set_cons_succ])
  refine wpAnyH_take (i := 8) (v := .pointer (some ⟨b2, o2 + j * 6, none⟩)) rfl (by kernel_rfl) (by kernel_rfl) (by kernel_rfl) (fun _ _ _ h => hp _ _ _ _ _ h) (Or.inl ⟨by rfl, ?_⟩) (by assumption) ?_
  · intro w hSw
    (try dsimp only at hSw)
    go_simp
  (try simp only [Act.put, List.getElem_toArray, List.getElem_cons_zero, List.getElem_cons_succ, List.setIfInBounds_toArray, List.set_cons_zero, List.set_cons_succ])
  refine wpAnyH_take (i := 9) (v := valV hy ay ny cy) rfl (by kernel_rfl) (by kernel_rfl) (by kernel_rfl) (fun _ _ _ h => hp _ _ _ _ _ h) (Or.inl ⟨by rfl, ?_⟩) (by assumption) ?_
  · intro w hSw
    (try dsimp only at hSw)
    go_simp
  (try simp only [Act.put, List.getElem_toArray, List.getElem_cons_zero, List.getElem_cons_succ, List.setIfInBounds_toArray, List.set_cons_zero, List.set_cons_succ])
  have hB0 := (Below.refl W.heap.size W).drew
  refine wpAnyH_ready (rs := [10]) (by kernel_rfl) (by simp) ?_
  refine AllReadyH.cons rfl (fun K hK => ?_) AllReadyH.nil
  go_simp
  refine (hcall _ hB0).mono ?_
  rintro r w1 ⟨⟨q, rfl, hq⟩, hb1⟩
  have hB1 := hB0.trans (hb1.mono hB0.size)
  have HQ : Hid (P q) := hq
  clear hq
  go_wp2_with fail
  refine hK.out _ _ (HSof.out _ hB1) (fun hHeld => ?_)
  clear hK K hB0 hb1 hcall
  refine wpAnyH_take (i := 11) (v := .bool (!q)) rfl (by kernel_rfl) (by kernel_rfl) (by kernel_rfl) (fun _ _ _ h => hp _ _ _ _ _ h) (Or.inl ⟨by rfl, ?_⟩) (by assumption) ?_
  · intro w hSw
    (try dsimp only at hSw)
    go_simp
  (try simp only [Act.put, List.getElem_toArray, List.getElem_cons_zero, List.getElem_cons_succ, List.setIfInBounds_toArray, List.set_cons_zero, List.set_cons_succ])
  refine wpAnyH_done (by kernel_rfl) ?_ _
  exact h _ _ _ _ _ _ _ _ _ _ _ _ _ HQ.out hB1
set_option maxRecDepth 100000 in
set_option maxHeartbeats 3000000 in
theorem sValueSame_any (N : Nat) : ∀ (x y : ItV) (w : World), x.F.size < N → N ≤ 2000000 → x.F.In w x.a → y.F.In w y.a → x.h.In w → y.h.In w →
    Calls Try.prog 11 #[valV x.h x.a x.F.len x.c, valV y.h y.a y.F.len y.c] w fun r w' => SaysT (same2V (x, y)) r ∧ Below w.heap.size w w' := by
  induction N with
  | zero => intro x y w h; omega
  | succ N ih =>
    intro x y w hN hN2 hx hy hhx hhy
    have hlx := x.F.len_le
    obtain ⟨⟨k, m, e, t, na, nc, ns⟩, xa, xF, xc⟩ := x
    obtain ⟨⟨k', m', e', t', na', nc', ns'⟩, ya, yF, yc⟩ := y
    dsimp only [valV] at hN hx hy hlx ⊢
    have hB0 := ((Below.refl _ w).alloc (Nat.le_refl _) (.cells #[.int .i64 k, .int .i64 m, .int .i64 e, .string t, .slice xa xF.len xc, .slice na ns.length nc] 33)).alloc (by simp) (.cells #[.int .i64 k', .int .i64 m', .int .i64 e', .string t', .slice ya yF.len yc, .slice na' ns'.length nc'] 33)
    by_cases h1 : k = k'
    · subst h1
      by_cases h2 : m = m'
      · subst h2
        by_cases h3 : e = e'
        · subst h3
          by_cases h4 : t = t'
          · subst h4
            by_cases h5 : xF.len = yF.len
            · by_cases h6 : ns.length = ns'.length
              · have HSm : Hid (same2V (⟨⟨k, m, e, t, na, nc, ns⟩, xa, xF, xc⟩, ⟨⟨k, m, e, t, na', nc', ns'⟩, ya, yF, yc⟩) ↔ ns = ns' ∧ ∀ i, i < xF.len → same2V (xF.itAt i, yF.itAt i)) := ⟨fun h => ⟨h.1.2, alike_kidsV h.2⟩, fun h => ⟨⟨⟨rfl, rfl, rfl, rfl⟩, h.1⟩, alike_of_kidsV h5 h.2⟩⟩
                obtain ⟨n, hn⟩ : ∃ n, xF.len = n := ⟨_, rfl⟩
                obtain ⟨nl, hnl⟩ : ∃ nl, ns.length = nl := ⟨_, rfl⟩
                have HnX : Hid (xF.len = n) := hn
                have HnY : Hid (yF.len = n) := h5.symm.trans hn
                have HlX : Hid (ns.length = nl) := hnl
                have HlY : Hid (ns'.length = nl) := h6.symm.trans hnl
                have hnlm : nl ≤ nc := by rw [← hnl]; exact hhx.2.1.1
                have hncm : nc ≤ maxLen := hhx.2.1.2
                rw [← h5, ← h6, hn, hnl] at hB0 ⊢
                rw [hn] at hlx HSm
                unfold maxLen at hncm
                have HSI : Hid (SIn w ns na ∧ SIn w ns' na') := ⟨hhx.1, hhy.1⟩
                clear hn h5 hnl h6 hhx hhy
                have A0 : Row ((w.alloc (.cells #[.int .i64 k, .int .i64 m, .int .i64 e, .string t, .slice xa n xc, .slice na nl nc] 33)).alloc (.cells #[.int .i64 k, .int .i64 m, .int .i64 e, .string t, .slice ya n yc, .slice na' nl nc'] 33)) w.heap.size [.int .i64 k, .int .i64 m, .int .i64 e, .string t, .slice xa n xc, .slice na nl nc] := (Row.new w _ _).below ((Below.refl _ _).alloc (Nat.le_refl _) _) (by simp)
                have C0 : Row ((w.alloc (.cells #[.int .i64 k, .int .i64 m, .int .i64 e, .string t, .slice xa n xc, .slice na nl nc] 33)).alloc (.cells #[.int .i64 k, .int .i64 m, .int .i64 e, .string t, .slice ya n yc, .slice na' nl nc'] 33)) (w.heap.size + 1) [.int .i64 k, .int .i64 m, .int .i64 e, .string t, .slice ya n yc, .slice na' nl nc'] := by
                  have := Row.new (w.alloc (.cells #[.int .i64 k, .int .i64 m, .int .i64 e, .string t, .slice xa n xc, .slice na nl nc] 33)) [.int .i64 k, .int .i64 m, .int .i64 e, .string t, .slice ya n yc, .slice na' nl nc'] 33
                  rw [World.size_alloc] at this
                  exact this
                go_enter Try.func11, Try.ntmps11
                go_wp2_with fail
                generalize (w.alloc (.cells #[.int .i64 k, .int .i64 m, .int .i64 e, .string t, .slice xa n xc, .slice na nl nc] 33)).alloc (.cells #[.int .i64 k, .int .i64 m, .int .i64 e, .string t, .slice ya n yc, .slice na' nl nc'] 33) = W0 at *
                have HBx : Hid (∀ W, Below W0.heap.size W0 W → (W.cell? ⟨w.heap.size, 4, none⟩ = some (.slice xa n xc) ∧ W.cell? ⟨w.heap.size + 1, 4, none⟩ = some (.slice ya n yc)) ∧ W.cell? ⟨w.heap.size, 5, none⟩ = some (.slice na nl nc) ∧ W.cell? ⟨w.heap.size + 1, 5, none⟩ = some (.slice na' nl nc')) := fun W h =>
                  ⟨⟨(A0.below h A0.lt 4 _ rfl).1, (C0.below h C0.lt 4 _ rfl).1⟩, (A0.below h A0.lt 5 _ rfl).1, (C0.below h C0.lt 5 _ rfl).1⟩
                clear A0 C0
                go_loopw [5] (fun i wr => ∃ j : Nat, i = .int .i64 j ∧ j ≤ nl ∧ (∀ q, q < j → ns[q]? = ns'[q]?) ∧ Below W0.heap.size W0 wr) (fun i _ => nl - (intOf i).toNat)
                case atStart => exact ⟨0, rfl, Nat.zero_le _, fun q hq => absurd hq (Nat.not_lt_zero _), Below.refl _ _⟩
                case round =>
                  obtain ⟨j, rfl, hj, hP, hb⟩ := hrel
                  have HP : Hid (∀ q, q < j → ns[q]? = ns'[q]?) := hP
                  clear hP
                  have hBw := hB0.trans (hb.mono hB0.size)
                  obtain ⟨⟨x4, y4⟩, x5, y5⟩ := HBx.out _ hb
                  by_cases hjn : j < nl
                  · have hjl : (j : Int) < (nl : Int) := by omega
                    obtain ⟨s, hs⟩ : ∃ s, ns[j]? = some s := ⟨ns[j]'(by rw [HlX.out]; exact hjn), List.getElem?_eq_getElem _⟩
                    obtain ⟨s2, hs2⟩ : ∃ s, ns'[j]? = some s := ⟨ns'[j]'(by rw [HlY.out]; exact hjn), List.getElem?_eq_getElem _⟩
                    rcases HSI.out.1 with hin | ⟨b, o, rfl, hF⟩
                    · rw [hin] at hs; simp at hs
                    rcases HSI.out.2 with hin2 | ⟨b2, o2, rfl, hF2⟩
                    · rw [hin2] at hs2; simp at hs2
                    have hc1 := ((hF.grow hBw).at hs).1
                    have hc2 := ((hF2.grow hBw).at hs2).1
                    have HS : Hid (ns[j]? = some s ∧ ns'[j]? = some s2) := ⟨hs, hs2⟩
                    clear hs hs2 hF hF2 x4 y4 ih hx hy
                    by_cases he : s = s2
                    · subst he
                      go_wp2_with fail
                      refine vs6 hjl hjl x5 y5 hc1 hc2 (q := false) (by simp) (fun _ d _ _ _ h => by cases d <;> exact h) ?_
                      intro ws v51 v52 v53 v54 v55 v56 v57 v58 v59 v60 hb1
                      have hb2 := hb.trans (hb1.mono hb.size)
                      clear hc1 hc2 hb1 hb x5 y5 hBw
                      go_wp2_with fail
                      go_round
                      case rel =>
                        refine ⟨j + 1, by go_num, by omega, fun q hq => ?_, hb2⟩
                        by_cases e : q = j
                        · rw [e, HS.out.1, HS.out.2]
                        · exact HP.out q (by omega)
                      case measure => simp [intOf]; omega
                    · have hne := text_ne he
                      have HNO : Hid (¬ same2V (⟨⟨k, m, e, t, some ⟨b, o, none⟩, nc, ns⟩, xa, xF, xc⟩, ⟨⟨k, m, e, t, some ⟨b2, o2, none⟩, nc', ns'⟩, ya, yF, yc⟩)) := fun h => he (by have h2 := HS.out; have h3 := h.1.2; dsimp only at h3; rw [h3] at h2; exact Option.some.inj (h2.1.symm.trans h2.2))
                      go_wp2_with fail
                      refine vs6 hjl hjl x5 y5 hc1 hc2 (q := true) (by simpa using hne) (fun _ d _ _ _ h => by cases d <;> exact h) ?_
                      intro ws v51 v52 v53 v54 v55 v56 v57 v58 v59 v60 hb1
                      have hb2 := hBw.trans (hb1.mono hBw.size)
                      clear hc1 hc2 hb1 hb x5 y5 hne
                      go_wp2_with fail
                      go_ret
                      exact ⟨⟨false, rfl, fun h => (by cases h), fun h => absurd h HNO.out⟩, hb2⟩
                  · have e0 : j = nl := by omega
                    subst e0
                    have HE : Hid (ns = ns') := List.ext_getElem? fun i => by
                      by_cases hi : i < j
                      · exact HP.out i hi
                      · rw [List.getElem?_eq_none (by rw [HlX.out]; omega), List.getElem?_eq_none (by rw [HlY.out]; omega)]
                    clear HP
                    obtain ⟨w1, hw1⟩ : ∃ w1, wr = w1 := ⟨_, rfl⟩
                    subst hw1
                    clear x4 y4
                    go_wp2_with fail
                    clear x5 y5
                    go_loopw [6] (fun i wr => ∃ j : Nat, i = .int .i64 j ∧ j ≤ n ∧ (∀ i, i < j → same2V (xF.itAt i, yF.itAt i)) ∧ Below W0.heap.size W0 wr) (fun i _ => n - (intOf i).toNat)
                    case atStart => exact ⟨0, rfl, Nat.zero_le _, fun i hi => absurd hi (Nat.not_lt_zero _), hb⟩
                    case round =>
                      obtain ⟨j2, rfl, hj2, hd, hbz⟩ := hrel
                      have HD : Hid (∀ i, i < j2 → same2V (xF.itAt i, yF.itAt i)) := hd
                      clear hd
                      have hBz := hB0.trans (hbz.mono hB0.size)
                      obtain ⟨⟨z4, u4_⟩, z5, u5_⟩ := HBx.out _ hbz
                      by_cases hjn2 : j2 < n
                      · have hjl2 : (j2 : Int) < (n : Int) := by omega
                        have hjX : j2 < xF.len := by rw [HnX.out]; exact hjn2
                        have hjY : j2 < yF.len := by rw [HnY.out]; exact hjn2
                        obtain ⟨b, o, rfl, hFr⟩ := Vo.from_of_len hx hjX
                        obtain ⟨b2, o2, rfl, hGr⟩ := Vo.from_of_len hy hjY
                        have hsz := Vo.size_at hjX
                        have HXY : Hid (Cells6 wr b (o + j2 * 6) (xF.hdAt j2) (.slice (xF.addrAt j2) (xF.kidsAt j2).len (xF.capAt j2)) ∧ Cells6 wr b2 (o2 + j2 * 6) (yF.hdAt j2) (.slice (yF.addrAt j2) (yF.kidsAt j2).len (yF.capAt j2))) := ⟨(Vo.from_at (Vo.from_grow hBz xF b o hFr) hjX).1, (Vo.from_at (Vo.from_grow hBz yF b2 o2 hGr) hjY).1⟩
                        have HC : Hid (∀ W', Below wr.heap.size wr W' → Calls Try.prog 11 #[valV (xF.hdAt j2) (xF.addrAt j2) (xF.kidsAt j2).len (xF.capAt j2), valV (yF.hdAt j2) (yF.addrAt j2) (yF.kidsAt j2).len (yF.capAt j2)] W' fun r w' => (∃ q : Bool, r = .returned (.bool q) ∧ (q = true ↔ same2V (xF.itAt j2, yF.itAt j2))) ∧ Below W'.heap.size W' w') := fun W' hW => by
                          have hq1 := Vo.from_at (Vo.from_grow (hBz.trans (hW.mono hBz.size)) xF b o hFr) hjX
                          have hq2 := Vo.from_at (Vo.from_grow (hBz.trans (hW.mono hBz.size)) yF b2 o2 hGr) hjY
                          exact ih (xF.itAt j2) (yF.itAt j2) W' (by show (xF.kidsAt j2).size < N; omega) (by omega) hq1.2.1 hq2.2.1 hq1.2.2.2 hq2.2.2.2
                        clear hFr hGr hx hy hjX hjY ih z5 u5_
                        go_wp2_with fail
                        refine vs11 hjl2 hjl2 z4 u4_ HXY.out.1 HXY.out.2 (P := fun q => (q = true ↔ same2V (xF.itAt j2, yF.itAt j2))) HC.out (fun _ d _ _ _ h => by cases d <;> exact h) ?_
                        intro ws q v69 v70 v71 v72 v73 v74 v75 v76 v77 v78 v79 hq hb1
                        have hb2 := hbz.trans (hb1.mono hbz.size)
                        have hBz2 := hBz.trans (hb1.mono hBz.size)
                        have HQ : Hid (q = true ↔ same2V (xF.itAt j2, yF.itAt j2)) := hq
                        clear hq HC HXY z4 u4_ hb1
                        cases q
                        · have HNO : Hid (¬ same2V (⟨⟨k, m, e, t, na, nc, ns⟩, some ⟨b, o, none⟩, xF, xc⟩, ⟨⟨k, m, e, t, na', nc', ns'⟩, some ⟨b2, o2, none⟩, yF, yc⟩)) := fun h => by
                            have := HQ.out.2 ((HSm.out.1 h).2 j2 hjn2)
                            cases this
                          go_wp2_with fail
                          go_ret
                          exact ⟨⟨false, rfl, fun h => (by cases h), fun h => absurd h HNO.out⟩, hBz2⟩
                        · have HR : Hid (∀ i, i < j2 + 1 → same2V (xF.itAt i, yF.itAt i)) := fun i hi => by
                            rcases Nat.lt_succ_iff_lt_or_eq.1 hi with hi | rfl
                            · exact HD.out i hi
                            · exact HQ.out.1 rfl
                          go_wp2_with fail
                          go_round
                          case rel => exact ⟨j2 + 1, by go_num, by omega, HR.out, hb2⟩
                          case measure => simp [intOf]; omega
                      · have e2 : j2 = n := by omega
                        have HR : Hid (same2V (⟨⟨k, m, e, t, na, nc, ns⟩, xa, xF, xc⟩, ⟨⟨k, m, e, t, na', nc', ns'⟩, ya, yF, yc⟩)) := HSm.out.2 ⟨HE.out, by rw [← e2]; exact HD.out⟩
                        have hjl2 : ¬ (j2 : Int) < (n : Int) := by omega
                        clear hx hy ih
                        go_wp2_with fail
                        go_ret
                        exact ⟨⟨true, rfl, fun _ => HR.out, fun _ => rfl⟩, hBz⟩
              · have HNO : Hid (¬ same2V (⟨⟨k, m, e, t, na, nc, ns⟩, xa, xF, xc⟩, ⟨⟨k, m, e, t, na', nc', ns'⟩, ya, yF, yc⟩)) := fun h => h6 (congrArg List.length h.1.2)
                have h6' : ((ns.length : Int) != (ns'.length : Int)) = true := by simp; omega
                rw [← h5] at hB0 ⊢
                clear h5
                clear hx hy hhx hhy
                clear ih
                go_enter Try.func11, Try.ntmps11
                go_wp2_with fail
                all_goals
                  go_ret
                  exact ⟨⟨false, rfl, fun h => (by cases h), fun h => absurd h HNO.out⟩, hB0⟩
            · have HNO : Hid (¬ same2V (⟨⟨k, m, e, t, na, nc, ns⟩, xa, xF, xc⟩, ⟨⟨k, m, e, t, na', nc', ns'⟩, ya, yF, yc⟩)) := fun h => h5 (Vo.alike_len h.2)
              have h5' : ((xF.len : Int) != (yF.len : Int)) = true := by simp; omega
              clear hx hy hhx hhy
              clear ih
              go_enter Try.func11, Try.ntmps11
              go_wp2_with fail
              all_goals
                go_ret
                exact ⟨⟨false, rfl, fun h => (by cases h), fun h => absurd h HNO.out⟩, hB0⟩
          · have HNO : Hid (¬ same2V (⟨⟨k, m, e, t, na, nc, ns⟩, xa, xF, xc⟩, ⟨⟨k, m, e, t', na', nc', ns'⟩, ya, yF, yc⟩)) := fun h => h4 h.1.1.2.2.2
            have h4' : (t.toList == t'.toList) = false := by have := text_ne h4; simpa using this
            clear hx hy hhx hhy
            clear ih
            go_enter Try.func11, Try.ntmps11
            go_wp2_with fail
            all_goals
              go_ret
              exact ⟨⟨false, rfl, fun h => (by cases h), fun h => absurd h HNO.out⟩, hB0⟩
        · have HNO : Hid (¬ same2V (⟨⟨k, m, e, t, na, nc, ns⟩, xa, xF, xc⟩, ⟨⟨k, m, e', t', na', nc', ns'⟩, ya, yF, yc⟩)) := fun h => h3 h.1.1.2.2.1
          have h3' : (e == e') = false := by simp [h3]
          clear hx hy hhx hhy
          clear ih
          go_enter Try.func11, Try.ntmps11
          go_wp2_with fail
          all_goals
            go_ret
            exact ⟨⟨false, rfl, fun h => (by cases h), fun h => absurd h HNO.out⟩, hB0⟩
      · have HNO : Hid (¬ same2V (⟨⟨k, m, e, t, na, nc, ns⟩, xa, xF, xc⟩, ⟨⟨k, m', e', t', na', nc', ns'⟩, ya, yF, yc⟩)) := fun h => h2 h.1.1.2.1
        have h2' : (m == m') = false := by simp [h2]
        clear hx hy hhx hhy
        clear ih
        go_enter Try.func11, Try.ntmps11
        go_wp2_with fail
        all_goals
          go_ret
          exact ⟨⟨false, rfl, fun h => (by cases h), fun h => absurd h HNO.out⟩, hB0⟩
    · have HNO : Hid (¬ same2V (⟨⟨k, m, e, t, na, nc, ns⟩, xa, xF, xc⟩, ⟨⟨k', m', e', t', na', nc', ns'⟩, ya, yF, yc⟩)) := fun h => h1 h.1.1.1
      have h1' : (k != k') = true := by simp [h1]
      clear hx hy hhx hhy
      clear ih
      go_enter Try.func11, Try.ntmps11
      go_wp2_with fail
      all_goals
        go_ret
        exact ⟨⟨false, rfl, fun h => (by cases h), fun h => absurd h HNO.out⟩, hB0⟩
end Go.Proofs.Ytohldacplapjkaa
