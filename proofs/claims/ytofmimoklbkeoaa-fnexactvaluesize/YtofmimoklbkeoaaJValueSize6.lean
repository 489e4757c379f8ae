/- My own texts, joined: Wi Wj Wf Vc Wk. -/
import Derived.Test.YtofmimoklbkeoaaJValueSize5
import Derived.Test.YtofmimoklbkeoaaJValueSize3
import Derived.Test.YtofmimoklbkeoaaJValueSize1
import Derived.Test.YtofmimoklbkeoaaJValueSize2
/- Two values that are the same, by the program: the region that makes the pair of places of two lists. -/
namespace Go.Proofs.Ytofmimoklbkeoaa
open Go.RowKit
theorem len_orV {w : World} {F : Vo} {a : Option Addr} (h : F.In w a) : F.len = 0 ∨ ∃ b o, a = some ⟨b, o, none⟩ := by
  rcases h with rfl | ⟨b, o, e, _⟩
  · exact .inl rfl
  · exact .inr ⟨b, o, e⟩
/-- a pair in its box -/
abbrev TwoV (pb : Nat) (x : Hd) (sx : Value) (y : Hd) (sy : Value) (w : World) : Prop :=
  (w.cell? ⟨pb, 0, none⟩ = some (.int .i64 x.k) ∧ w.cell? ⟨pb, 1, none⟩ = some (.int .i64 x.m) ∧ w.cell? ⟨pb, 2, none⟩ = some (.int .i64 x.e) ∧ w.cell? ⟨pb, 3, none⟩ = some (.string x.t) ∧ w.cell? ⟨pb, 4, none⟩ = some sx ∧ w.cell? ⟨pb, 5, none⟩ = some (.slice x.na x.ns.length x.nc)) ∧
  (w.cell? ⟨pb, 6, none⟩ = some (.int .i64 y.k) ∧ w.cell? ⟨pb, 7, none⟩ = some (.int .i64 y.m) ∧ w.cell? ⟨pb, 8, none⟩ = some (.int .i64 y.e) ∧ w.cell? ⟨pb, 9, none⟩ = some (.string y.t) ∧ w.cell? ⟨pb, 10, none⟩ = some sy ∧ w.cell? ⟨pb, 11, none⟩ = some (.slice y.na y.ns.length y.nc))
theorem TwoV.same {w w' : World} {pb : Nat} {x y : Hd} {sx sy : Value} (h : TwoV pb x sx y sy w) (hb : w'.heap[pb]? = w.heap[pb]?) : TwoV pb x sx y sy w' := by
  have c : ∀ o, w'.cell? ⟨pb, o, none⟩ = w.cell? ⟨pb, o, none⟩ := fun o => World.cell?_of_block (a := ⟨pb, o, none⟩) hb
  obtain ⟨⟨a0, a1, a2, a3, a4, a5⟩, a6, a7, a8, a9, a10, a11⟩ := h
  exact ⟨⟨(c 0).trans a0, (c 1).trans a1, (c 2).trans a2, (c 3).trans a3, (c 4).trans a4, (c 5).trans a5⟩, (c 6).trans a6, (c 7).trans a7, (c 8).trans a8, (c 9).trans a9, (c 10).trans a10, (c 11).trans a11⟩
theorem TwoV.lt {w : World} {pb : Nat} {x y : Hd} {sx sy : Value} (h : TwoV pb x sx y sy w) : pb < w.heap.size := World.block_lt_of_cell? _ _ h.1.1
/-- a pair in its box, and nothing old changed -/
abbrev HeldB (W : World) (pb : Nat) (x : Hd) (sx : Value) (y : Hd) (sy : Value) (w : World) : Prop :=
  TwoV pb x sx y sy w ∧ Below W.heap.size W w
set_option maxRecDepth 100000 in
set_option maxHeartbeats 2000000 in
theorem sa8V {Q : Exit → Act → World → Prop} {t0 t1 t2 t3 t4 t5 t6 t8 t9 t10 t11 t12 t13 t14 t15 t16 t17 t18 t19 t20 t21 t22 t23 t24 t25 t26 t27 t28 t29 t30 t31 t32 t33 t34 t35 t36 t37 t38 t39 t40 t41 t42 t43 t44 t45 t46 t47 t48 t49 t50 t51 t52 t53 t54 t55 t56 t57 t58 t59 t60 t61 t62 t63 t64 t65 t66 : Value} {W : World} {pb : Nat} {xh : Hd} {xa : Option Addr} {xn xc : Nat} {yh : Hd} {ya : Option Addr} {yn yc : Nat}
    (hT : TwoV pb xh (.slice xa xn xc) yh (.slice ya yn yc) W) (hxa : xn = 0 ∨ ∃ b o, xa = some ⟨b, o, none⟩) (hya : yn = 0 ∨ ∃ b o, ya = some ⟨b, o, none⟩) (hxl : xn ≤ 2000000) (hyl : yn ≤ 2000000)
    (hp : ∀ p d v a w, Q (.panic p) (Act.put a d v) w → Q (.panic p) a w) (h : ∀ WE B v35 v36 v37 v38 v39 v40 v41 v42 v43 v44 v45, Below W.heap.size W WE → W.heap.size ≤ B → FourC B (.pointer (plOf xa xn).1) (.int .i64 (plOf xa xn).2) (.pointer (plOf ya yn).1) (.int .i64 (plOf ya yn).2) WE → Q .normal { tmps := (t0 :: t1 :: t2 :: t3 :: t4 :: t5 :: t6 :: .pointer (some ⟨pb, 0, none⟩) :: .pointer (some ⟨B, 0, none⟩) :: t9 :: t10 :: t11 :: t12 :: t13 :: t14 :: t15 :: t16 :: t17 :: t18 :: t19 :: t20 :: t21 :: t22 :: t23 :: t24 :: t25 :: t26 :: t27 :: t28 :: t29 :: t30 :: t31 :: t32 :: t33 :: t34 :: v35 :: v36 :: v37 :: v38 :: v39 :: v40 :: v41 :: v42 :: v43 :: v44 :: v45 :: t46 :: t47 :: t48 :: t49 :: t50 :: t51 :: t52 :: t53 :: t54 :: t55 :: t56 :: t57 :: t58 :: t59 :: t60 :: t61 :: t62 :: t63 :: t64 :: t65 :: t66 :: []).toArray, defers := [] } WE) :
    Code.wp Try.prog (Code.region 8 #[{ dst := some 35, op := Op.fieldAddr 124 (Operand.tmp 7) 0, type := 0, pos := "l3_tree.go:383", after := #[], guard := none }, { dst := some 36, op := Op.load 33 (Operand.tmp 35), type := 33, pos := "l3_tree.go:383", after := #[{ on := 0, ground := Ground.data }], guard := none }, { dst := some 37, op := Op.makeInterface 33 (Operand.tmp 36), type := 20, pos := "l3_tree.go:383", after := #[{ on := 1, ground := Ground.data }], guard := none }, { dst := some 38, op := Op.call { callee := Callee.invoke (Operand.tmp 37) "loop.example/chancery/impl.below", args := #[], argTypes := #[] }, type := 31, pos := "l3_tree.go:383", after := #[{ on := 2, ground := Ground.data }], guard := none }, { dst := some 39, op := Op.call { callee := Callee.value (Operand.func 44), args := #[Operand.tmp 38], argTypes := #[31] }, type := 65, pos := "l3_tree.go:383", after := #[{ on := 3, ground := Ground.data }, { on := 3, ground := Ground.chain }], guard := none }, { dst := some 40, op := Op.fieldAddr 124 (Operand.tmp 7) 1, type := 0, pos := "l3_tree.go:383", after := #[], guard := none }, { dst := some 41, op := Op.load 33 (Operand.tmp 40), type := 33, pos := "l3_tree.go:383", after := #[{ on := 5, ground := Ground.data }], guard := none }, { dst := some 42, op := Op.makeInterface 33 (Operand.tmp 41), type := 20, pos := "l3_tree.go:383", after := #[{ on := 6, ground := Ground.data }], guard := none }, { dst := some 43, op := Op.call { callee := Callee.invoke (Operand.tmp 42) "loop.example/chancery/impl.below", args := #[], argTypes := #[] }, type := 31, pos := "l3_tree.go:383", after := #[{ on := 7, ground := Ground.data }, { on := 4, ground := Ground.chain }], guard := none }, { dst := some 44, op := Op.call { callee := Callee.value (Operand.func 44), args := #[Operand.tmp 43], argTypes := #[31] }, type := 65, pos := "l3_tree.go:383", after := #[{ on := 8, ground := Ground.data }, { on := 8, ground := Ground.chain }], guard := none }, { dst := some 45, op := Op.build 127 #[(0, Operand.tmp 39), (1, Operand.tmp 44)], type := 127, pos := "l3_tree.go:383", after := #[{ on := 4, ground := Ground.data }, { on := 9, ground := Ground.data }], guard := none }, { dst := some 8, op := Op.alloc 127, type := 0, pos := "l3_tree.go:383", after := #[], guard := none }, { dst := none, op := Op.store 127 (Operand.tmp 8) (Operand.tmp 45), type := 0, pos := "l3_tree.go:383", after := #[{ on := 11, ground := Ground.data }, { on := 10, ground := Ground.data }, { on := 9, ground := Ground.chain }, { on := 0, ground := Ground.phase }, { on := 1, ground := Ground.phase }, { on := 2, ground := Ground.phase }, { on := 3, ground := Ground.phase }, { on := 4, ground := Ground.phase }, { on := 5, ground := Ground.phase }, { on := 6, ground := Ground.phase }, { on := 7, ground := Ground.phase }, { on := 8, ground := Ground.phase }, { on := 9, ground := Ground.phase }, { on := 10, ground := Ground.phase }, { on := 11, ground := Ground.phase }], guard := none }] true) Q { tmps := (t0 :: t1 :: t2 :: t3 :: t4 :: t5 :: t6 :: .pointer (some ⟨pb, 0, none⟩) :: t8 :: t9 :: t10 :: t11 :: t12 :: t13 :: t14 :: t15 :: t16 :: t17 :: t18 :: t19 :: t20 :: t21 :: t22 :: t23 :: t24 :: t25 :: t26 :: t27 :: t28 :: t29 :: t30 :: t31 :: t32 :: t33 :: t34 :: t35 :: t36 :: t37 :: t38 :: t39 :: t40 :: t41 :: t42 :: t43 :: t44 :: t45 :: t46 :: t47 :: t48 :: t49 :: t50 :: t51 :: t52 :: t53 :: t54 :: t55 :: t56 :: t57 :: t58 :: t59 :: t60 :: t61 :: t62 :: t63 :: t64 :: t65 :: t66 :: []).toArray, defers := [] } W := by
  have hmeth := belowV_method
  have hpl := hT.lt
  have HSof : Hid (∀ w', Below W.heap.size W w' → HeldB W pb xh (.slice xa xn xc) yh (.slice ya yn yc) w') := fun w' h => ⟨hT.same (h.block _ hpl), h⟩
  have hS0 := HSof.out _ ((Below.refl _ W).drew)
  clear hT
  refine wp_region_held_drew (S := fun w' => HeldB W pb xh (.slice xa xn xc) yh (.slice ya yn yc) w') (by kernel_rfl) hS0 (fun hHeld => ?_)
  refine wpAnyH_take (i := 0) (v := .pointer (some ⟨pb, 0, none⟩)) rfl (by kernel_rfl) (by kernel_rfl) (by kernel_rfl) (fun _ _ _ h => hp _ _ _ _ _ h) (Or.inl ⟨by rfl, ?_⟩) (by assumption) ?_
  · intro w hSw
    (try dsimp only at hSw)
    go_simp
  (try simp only [Act.put, List.getElem_toArray, List.getElem_cons_zero, List.setIfInBounds_toArray, List.set_cons_zero, List.set_cons_succ])
  refine wpAnyH_take (i := 1) (v := valV xh xa xn xc) rfl (by kernel_rfl) (by kernel_rfl) (by kernel_rfl) (fun _ _ _ h => hp _ _ _ _ _ h) (Or.inl ⟨by rfl, ?_⟩) (by assumption) ?_
  · intro w hSw
    (try dsimp only at hSw)
    go_simp
  (try simp only [Act.put, List.getElem_toArray, List.getElem_cons_zero, List.getElem_cons_succ, List.setIfInBounds_toArray, List.set_cons_zero, List.set_cons_succ])
  refine wpAnyH_take (i := 2) (v := .iface 33 (valV xh xa xn xc)) rfl (by kernel_rfl) (by kernel_rfl) (by kernel_rfl) (fun _ _ _ h => hp _ _ _ _ _ h) (Or.inl ⟨by rfl, ?_⟩) (by assumption) ?_
  · intro w hSw
    (try dsimp only at hSw)
    go_simp
  (try simp only [Act.put, List.getElem_toArray, List.getElem_cons_zero, List.getElem_cons_succ, List.setIfInBounds_toArray, List.set_cons_zero, List.set_cons_succ])
  refine wpAnyH_take (i := 5) (v := .pointer (some ⟨pb, 6, none⟩)) rfl (by kernel_rfl) (by kernel_rfl) (by kernel_rfl) (fun _ _ _ h => hp _ _ _ _ _ h) (Or.inl ⟨by rfl, ?_⟩) (by assumption) ?_
  · intro w hSw
    (try dsimp only at hSw)
    go_simp
  (try simp only [Act.put, List.getElem_toArray, List.getElem_cons_zero, List.getElem_cons_succ, List.setIfInBounds_toArray, List.set_cons_zero, List.set_cons_succ])
  refine wpAnyH_take (i := 6) (v := valV yh ya yn yc) rfl (by kernel_rfl) (by kernel_rfl) (by kernel_rfl) (fun _ _ _ h => hp _ _ _ _ _ h) (Or.inl ⟨by rfl, ?_⟩) (by assumption) ?_
  · intro w hSw
    (try dsimp only at hSw)
    go_simp
  (try simp only [Act.put, List.getElem_toArray, List.getElem_cons_zero, List.getElem_cons_succ, List.setIfInBounds_toArray, List.set_cons_zero, List.set_cons_succ])
  refine wpAnyH_take (i := 7) (v := .iface 33 (valV yh ya yn yc)) rfl (by kernel_rfl) (by kernel_rfl) (by kernel_rfl) (fun _ _ _ h => hp _ _ _ _ _ h) (Or.inl ⟨by rfl, ?_⟩) (by assumption) ?_
  · intro w hSw
    (try dsimp only at hSw)
    go_simp
  (try simp only [Act.put, List.getElem_toArray, List.getElem_cons_zero, List.getElem_cons_succ, List.setIfInBounds_toArray, List.set_cons_zero, List.set_cons_succ])
  have hBW := (Below.refl W.heap.size W).drew
  refine wpAnyH_ready (rs := [3, 11]) (by kernel_rfl) (by simp) ?_
  refine AllReadyH.cons rfl (fun K hK => ?_) (AllReadyH.cons rfl (fun K hK => ?_) AllReadyH.nil)
  · skip
    go_simp
    refine (belowV_any xh xa xn xc _).mono ?_
    rintro r wn0 ⟨rfl, hbn⟩
    have hBn := hBW.trans (hbn.mono hBW.size)
    go_wp2_with fail
    refine hK.out _ _ (HSof.out _ hBn) (fun hHeld => ?_)
    clear hK K hBW hbn
    have hBW := hBn
    clear hBn
    refine wpAnyH_ready (rs := [4, 11]) (by kernel_rfl) (by simp) ?_
    refine AllReadyH.cons rfl (fun K hK => ?_) (AllReadyH.cons rfl (fun K hK => ?_) AllReadyH.nil)
    · skip
      go_simp
      refine (placeOfV_any xa xn xc _ hxa hxl).mono ?_
      rintro r wn1 ⟨rfl, hbn⟩
      have hBn := hBW.trans (hbn.mono hBW.size)
      go_wp2_with fail
      refine hK.out _ _ (HSof.out _ hBn) (fun hHeld => ?_)
      clear hK K hBW hbn
      have hBW := hBn
      clear hBn
      refine wpAnyH_ready (rs := [8, 11]) (by kernel_rfl) (by simp) ?_
      refine AllReadyH.cons rfl (fun K hK => ?_) (AllReadyH.cons rfl (fun K hK => ?_) AllReadyH.nil)
      · skip
        go_simp
        refine (belowV_any yh ya yn yc _).mono ?_
        rintro r wn2 ⟨rfl, hbn⟩
        have hBn := hBW.trans (hbn.mono hBW.size)
        go_wp2_with fail
        refine hK.out _ _ (HSof.out _ hBn) (fun hHeld => ?_)
        clear hK K hBW hbn
        have hBW := hBn
        clear hBn
        refine wpAnyH_ready (rs := [9, 11]) (by kernel_rfl) (by simp) ?_
        refine AllReadyH.cons rfl (fun K hK => ?_) (AllReadyH.cons rfl (fun K hK => ?_) AllReadyH.nil)
        · skip
          go_simp
          refine (placeOfV_any ya yn yc _ hya hyl).mono ?_
          rintro r wn3 ⟨rfl, hbn⟩
          have hBn := hBW.trans (hbn.mono hBW.size)
          go_wp2_with fail
          refine hK.out _ _ (HSof.out _ hBn) (fun hHeld => ?_)
          clear hK K hBW hbn
          have hBW := hBn
          clear hBn
          refine wpAnyH_take (i := 10) (v := pl2V (plOf xa xn, plOf ya yn)) rfl (by kernel_rfl) (by kernel_rfl) (by kernel_rfl) (fun _ _ _ h => hp _ _ _ _ _ h) (Or.inl ⟨by rfl, ?_⟩) (by assumption) ?_
          · intro w hSw
            (try dsimp only at hSw)
            unfold plV pl2V
            go_simp
          (try simp only [Act.put, List.getElem_toArray, List.getElem_cons_zero, List.getElem_cons_succ, List.setIfInBounds_toArray, List.set_cons_zero, List.set_cons_succ])
          refine wpAnyH_ready (rs := [11]) (by kernel_rfl) (by simp) ?_
          refine AllReadyH.cons rfl (fun K hK => ?_) AllReadyH.nil
          go_simp
          have hBn : Below W.heap.size W (wn3.alloc (.cells #[.pointer none, .int .i64 0, .pointer none, .int .i64 0] 127)) := hBW.alloc hBW.size _
          have hfour : Four (wn3.alloc (.cells #[.pointer none, .int .i64 0, .pointer none, .int .i64 0] 127)) wn3.heap.size (.pointer none) (.int .i64 0) (.pointer none) (.int .i64 0) := Four.new wn3 _ _ _ _ _
          refine hK.out _ _ (HSof.out _ hBn) (fun hHeld => ?_)
          have hBsz := hBW.size
          clear hK K hBW
          have hBW := hBn
          clear hBn
          obtain ⟨B, hBd⟩ : ∃ B, wn3.heap.size = B := ⟨_, rfl⟩
          have hBge : W.heap.size ≤ B := by omega
          rw [hBd] at hfour ⊢
          clear hBd
          generalize (wn3.alloc (.cells #[.pointer none, .int .i64 0, .pointer none, .int .i64 0] 127)) = WA at *
          obtain ⟨⟨f0, f1, f2, f3⟩, g0, g1, g2, g3⟩ := hfour
          refine wpAnyH_ready (rs := [12]) (by kernel_rfl) (by simp) ?_
          refine AllReadyH.cons rfl (fun K hK => ?_) AllReadyH.nil
          unfold pl2V
          go_simp
          have hWE : Below W.heap.size W ((((WA.setCell ⟨B, 0, none⟩ (.pointer (plOf xa xn).1)).setCell ⟨B, 1, none⟩ (.int .i64 (plOf xa xn).2)).setCell ⟨B, 2, none⟩ (.pointer (plOf ya yn).1)).setCell ⟨B, 3, none⟩ (.int .i64 (plOf ya yn).2)) := (((hBW.setCell (p := ⟨B, 0, none⟩) hBge _).setCell (p := ⟨B, 1, none⟩) hBge _).setCell (p := ⟨B, 2, none⟩) hBge _).setCell (p := ⟨B, 3, none⟩) hBge _
          have e0 : ((((WA.setCell ⟨B, 0, none⟩ (.pointer (plOf xa xn).1)).setCell ⟨B, 1, none⟩ (.int .i64 (plOf xa xn).2)).setCell ⟨B, 2, none⟩ (.pointer (plOf ya yn).1)).setCell ⟨B, 3, none⟩ (.int .i64 (plOf ya yn).2)).cell? ⟨B, 0, none⟩ = some (.pointer (plOf xa xn).1) := by rw [set_far (by omega), set_far (by omega), set_far (by omega)]; exact set_near ⟨_, f0⟩
          have e1 : ((((WA.setCell ⟨B, 0, none⟩ (.pointer (plOf xa xn).1)).setCell ⟨B, 1, none⟩ (.int .i64 (plOf xa xn).2)).setCell ⟨B, 2, none⟩ (.pointer (plOf ya yn).1)).setCell ⟨B, 3, none⟩ (.int .i64 (plOf ya yn).2)).cell? ⟨B, 1, none⟩ = some (.int .i64 (plOf xa xn).2) := by rw [set_far (by omega), set_far (by omega)]; exact set_near (set_is ⟨_, f1⟩)
          have e2 : ((((WA.setCell ⟨B, 0, none⟩ (.pointer (plOf xa xn).1)).setCell ⟨B, 1, none⟩ (.int .i64 (plOf xa xn).2)).setCell ⟨B, 2, none⟩ (.pointer (plOf ya yn).1)).setCell ⟨B, 3, none⟩ (.int .i64 (plOf ya yn).2)).cell? ⟨B, 2, none⟩ = some (.pointer (plOf ya yn).1) := by rw [set_far (by omega)]; exact set_near (set_is (set_is ⟨_, f2⟩))
          have e3 : ((((WA.setCell ⟨B, 0, none⟩ (.pointer (plOf xa xn).1)).setCell ⟨B, 1, none⟩ (.int .i64 (plOf xa xn).2)).setCell ⟨B, 2, none⟩ (.pointer (plOf ya yn).1)).setCell ⟨B, 3, none⟩ (.int .i64 (plOf ya yn).2)).cell? ⟨B, 3, none⟩ = some (.int .i64 (plOf ya yn).2) := set_near (set_is (set_is (set_is ⟨_, f3⟩)))
          generalize (((WA.setCell ⟨B, 0, none⟩ (.pointer (plOf xa xn).1)).setCell ⟨B, 1, none⟩ (.int .i64 (plOf xa xn).2)).setCell ⟨B, 2, none⟩ (.pointer (plOf ya yn).1)).setCell ⟨B, 3, none⟩ (.int .i64 (plOf ya yn).2) = WE at *
          refine hK.out _ _ (HSof.out _ hWE) (fun hHeld => ?_)
          clear hK K f0 f1 f2 f3 g0 g1 g2 g3 hBW
          refine wpAnyH_done (by kernel_rfl) ?_ _
          exact h _ _ _ _ _ _ _ _ _ _ _ _ _ hWE hBge ⟨e0, e1, e2, e3⟩
        · skip
          go_simp
          have hBn : Below W.heap.size W (wn2.alloc (.cells #[.pointer none, .int .i64 0, .pointer none, .int .i64 0] 127)) := hBW.alloc hBW.size _
          have hfour : Four (wn2.alloc (.cells #[.pointer none, .int .i64 0, .pointer none, .int .i64 0] 127)) wn2.heap.size (.pointer none) (.int .i64 0) (.pointer none) (.int .i64 0) := Four.new wn2 _ _ _ _ _
          refine hK.out _ _ (HSof.out _ hBn) (fun hHeld => ?_)
          have hBsz := hBW.size
          clear hK K hBW
          have hBW := hBn
          clear hBn
          obtain ⟨B, hBd⟩ : ∃ B, wn2.heap.size = B := ⟨_, rfl⟩
          have hBge : W.heap.size ≤ B := by omega
          rw [hBd] at hfour ⊢
          clear hBd
          generalize (wn2.alloc (.cells #[.pointer none, .int .i64 0, .pointer none, .int .i64 0] 127)) = WA at *
          refine wpAnyH_ready (rs := [9]) (by kernel_rfl) (by simp) ?_
          refine AllReadyH.cons rfl (fun K hK => ?_) AllReadyH.nil
          go_simp
          refine (placeOfV_any ya yn yc _ hya hyl).mono ?_
          rintro r wn3 ⟨rfl, hbn⟩
          have hBn := hBW.trans (hbn.mono hBW.size)
          have hfn := hfour.below hbn hfour.lt
          clear hfour
          have hfour := hfn
          clear hfn
          go_wp2_with fail
          refine hK.out _ _ (HSof.out _ hBn) (fun hHeld => ?_)
          clear hK K hBW hbn
          have hBW := hBn
          clear hBn
          refine wpAnyH_take (i := 10) (v := pl2V (plOf xa xn, plOf ya yn)) rfl (by kernel_rfl) (by kernel_rfl) (by kernel_rfl) (fun _ _ _ h => hp _ _ _ _ _ h) (Or.inl ⟨by rfl, ?_⟩) (by assumption) ?_
          · intro w hSw
            (try dsimp only at hSw)
            unfold plV pl2V
            go_simp
          (try simp only [Act.put, List.getElem_toArray, List.getElem_cons_zero, List.getElem_cons_succ, List.setIfInBounds_toArray, List.set_cons_zero, List.set_cons_succ])
          obtain ⟨⟨f0, f1, f2, f3⟩, g0, g1, g2, g3⟩ := hfour
          refine wpAnyH_ready (rs := [12]) (by kernel_rfl) (by simp) ?_
          refine AllReadyH.cons rfl (fun K hK => ?_) AllReadyH.nil
          unfold pl2V
          go_simp
          have hWE : Below W.heap.size W ((((wn3.setCell ⟨B, 0, none⟩ (.pointer (plOf xa xn).1)).setCell ⟨B, 1, none⟩ (.int .i64 (plOf xa xn).2)).setCell ⟨B, 2, none⟩ (.pointer (plOf ya yn).1)).setCell ⟨B, 3, none⟩ (.int .i64 (plOf ya yn).2)) := (((hBW.setCell (p := ⟨B, 0, none⟩) hBge _).setCell (p := ⟨B, 1, none⟩) hBge _).setCell (p := ⟨B, 2, none⟩) hBge _).setCell (p := ⟨B, 3, none⟩) hBge _
          have e0 : ((((wn3.setCell ⟨B, 0, none⟩ (.pointer (plOf xa xn).1)).setCell ⟨B, 1, none⟩ (.int .i64 (plOf xa xn).2)).setCell ⟨B, 2, none⟩ (.pointer (plOf ya yn).1)).setCell ⟨B, 3, none⟩ (.int .i64 (plOf ya yn).2)).cell? ⟨B, 0, none⟩ = some (.pointer (plOf xa xn).1) := by rw [set_far (by omega), set_far (by omega), set_far (by omega)]; exact set_near ⟨_, f0⟩
          have e1 : ((((wn3.setCell ⟨B, 0, none⟩ (.pointer (plOf xa xn).1)).setCell ⟨B, 1, none⟩ (.int .i64 (plOf xa xn).2)).setCell ⟨B, 2, none⟩ (.pointer (plOf ya yn).1)).setCell ⟨B, 3, none⟩ (.int .i64 (plOf ya yn).2)).cell? ⟨B, 1, none⟩ = some (.int .i64 (plOf xa xn).2) := by rw [set_far (by omega), set_far (by omega)]; exact set_near (set_is ⟨_, f1⟩)
          have e2 : ((((wn3.setCell ⟨B, 0, none⟩ (.pointer (plOf xa xn).1)).setCell ⟨B, 1, none⟩ (.int .i64 (plOf xa xn).2)).setCell ⟨B, 2, none⟩ (.pointer (plOf ya yn).1)).setCell ⟨B, 3, none⟩ (.int .i64 (plOf ya yn).2)).cell? ⟨B, 2, none⟩ = some (.pointer (plOf ya yn).1) := by rw [set_far (by omega)]; exact set_near (set_is (set_is ⟨_, f2⟩))
          have e3 : ((((wn3.setCell ⟨B, 0, none⟩ (.pointer (plOf xa xn).1)).setCell ⟨B, 1, none⟩ (.int .i64 (plOf xa xn).2)).setCell ⟨B, 2, none⟩ (.pointer (plOf ya yn).1)).setCell ⟨B, 3, none⟩ (.int .i64 (plOf ya yn).2)).cell? ⟨B, 3, none⟩ = some (.int .i64 (plOf ya yn).2) := set_near (set_is (set_is (set_is ⟨_, f3⟩)))
          generalize (((wn3.setCell ⟨B, 0, none⟩ (.pointer (plOf xa xn).1)).setCell ⟨B, 1, none⟩ (.int .i64 (plOf xa xn).2)).setCell ⟨B, 2, none⟩ (.pointer (plOf ya yn).1)).setCell ⟨B, 3, none⟩ (.int .i64 (plOf ya yn).2) = WE at *
          refine hK.out _ _ (HSof.out _ hWE) (fun hHeld => ?_)
          clear hK K f0 f1 f2 f3 g0 g1 g2 g3 hBW
          refine wpAnyH_done (by kernel_rfl) ?_ _
          exact h _ _ _ _ _ _ _ _ _ _ _ _ _ hWE hBge ⟨e0, e1, e2, e3⟩
      · skip
        go_simp
        have hBn : Below W.heap.size W (wn1.alloc (.cells #[.pointer none, .int .i64 0, .pointer none, .int .i64 0] 127)) := hBW.alloc hBW.size _
        have hfour : Four (wn1.alloc (.cells #[.pointer none, .int .i64 0, .pointer none, .int .i64 0] 127)) wn1.heap.size (.pointer none) (.int .i64 0) (.pointer none) (.int .i64 0) := Four.new wn1 _ _ _ _ _
        refine hK.out _ _ (HSof.out _ hBn) (fun hHeld => ?_)
        have hBsz := hBW.size
        clear hK K hBW
        have hBW := hBn
        clear hBn
        obtain ⟨B, hBd⟩ : ∃ B, wn1.heap.size = B := ⟨_, rfl⟩
        have hBge : W.heap.size ≤ B := by omega
        rw [hBd] at hfour ⊢
        clear hBd
        generalize (wn1.alloc (.cells #[.pointer none, .int .i64 0, .pointer none, .int .i64 0] 127)) = WA at *
        refine wpAnyH_ready (rs := [8]) (by kernel_rfl) (by simp) ?_
        refine AllReadyH.cons rfl (fun K hK => ?_) AllReadyH.nil
        go_simp
        refine (belowV_any yh ya yn yc _).mono ?_
        rintro r wn2 ⟨rfl, hbn⟩
        have hBn := hBW.trans (hbn.mono hBW.size)
        have hfn := hfour.below hbn hfour.lt
        clear hfour
        have hfour := hfn
        clear hfn
        go_wp2_with fail
        refine hK.out _ _ (HSof.out _ hBn) (fun hHeld => ?_)
        clear hK K hBW hbn
        have hBW := hBn
        clear hBn
        refine wpAnyH_ready (rs := [9]) (by kernel_rfl) (by simp) ?_
        refine AllReadyH.cons rfl (fun K hK => ?_) AllReadyH.nil
        go_simp
        refine (placeOfV_any ya yn yc _ hya hyl).mono ?_
        rintro r wn3 ⟨rfl, hbn⟩
        have hBn := hBW.trans (hbn.mono hBW.size)
        have hfn := hfour.below hbn hfour.lt
        clear hfour
        have hfour := hfn
        clear hfn
        go_wp2_with fail
        refine hK.out _ _ (HSof.out _ hBn) (fun hHeld => ?_)
        clear hK K hBW hbn
        have hBW := hBn
        clear hBn
        refine wpAnyH_take (i := 10) (v := pl2V (plOf xa xn, plOf ya yn)) rfl (by kernel_rfl) (by kernel_rfl) (by kernel_rfl) (fun _ _ _ h => hp _ _ _ _ _ h) (Or.inl ⟨by rfl, ?_⟩) (by assumption) ?_
        · intro w hSw
          (try dsimp only at hSw)
          unfold plV pl2V
          go_simp
        (try simp only [Act.put, List.getElem_toArray, List.getElem_cons_zero, List.getElem_cons_succ, List.setIfInBounds_toArray, List.set_cons_zero, List.set_cons_succ])
        obtain ⟨⟨f0, f1, f2, f3⟩, g0, g1, g2, g3⟩ := hfour
        refine wpAnyH_ready (rs := [12]) (by kernel_rfl) (by simp) ?_
        refine AllReadyH.cons rfl (fun K hK => ?_) AllReadyH.nil
        unfold pl2V
        go_simp
        have hWE : Below W.heap.size W ((((wn3.setCell ⟨B, 0, none⟩ (.pointer (plOf xa xn).1)).setCell ⟨B, 1, none⟩ (.int .i64 (plOf xa xn).2)).setCell ⟨B, 2, none⟩ (.pointer (plOf ya yn).1)).setCell ⟨B, 3, none⟩ (.int .i64 (plOf ya yn).2)) := (((hBW.setCell (p := ⟨B, 0, none⟩) hBge _).setCell (p := ⟨B, 1, none⟩) hBge _).setCell (p := ⟨B, 2, none⟩) hBge _).setCell (p := ⟨B, 3, none⟩) hBge _
        have e0 : ((((wn3.setCell ⟨B, 0, none⟩ (.pointer (plOf xa xn).1)).setCell ⟨B, 1, none⟩ (.int .i64 (plOf xa xn).2)).setCell ⟨B, 2, none⟩ (.pointer (plOf ya yn).1)).setCell ⟨B, 3, none⟩ (.int .i64 (plOf ya yn).2)).cell? ⟨B, 0, none⟩ = some (.pointer (plOf xa xn).1) := by rw [set_far (by omega), set_far (by omega), set_far (by omega)]; exact set_near ⟨_, f0⟩
        have e1 : ((((wn3.setCell ⟨B, 0, none⟩ (.pointer (plOf xa xn).1)).setCell ⟨B, 1, none⟩ (.int .i64 (plOf xa xn).2)).setCell ⟨B, 2, none⟩ (.pointer (plOf ya yn).1)).setCell ⟨B, 3, none⟩ (.int .i64 (plOf ya yn).2)).cell? ⟨B, 1, none⟩ = some (.int .i64 (plOf xa xn).2) := by rw [set_far (by omega), set_far (by omega)]; exact set_near (set_is ⟨_, f1⟩)
        have e2 : ((((wn3.setCell ⟨B, 0, none⟩ (.pointer (plOf xa xn).1)).setCell ⟨B, 1, none⟩ (.int .i64 (plOf xa xn).2)).setCell ⟨B, 2, none⟩ (.pointer (plOf ya yn).1)).setCell ⟨B, 3, none⟩ (.int .i64 (plOf ya yn).2)).cell? ⟨B, 2, none⟩ = some (.pointer (plOf ya yn).1) := by rw [set_far (by omega)]; exact set_near (set_is (set_is ⟨_, f2⟩))
        have e3 : ((((wn3.setCell ⟨B, 0, none⟩ (.pointer (plOf xa xn).1)).setCell ⟨B, 1, none⟩ (.int .i64 (plOf xa xn).2)).setCell ⟨B, 2, none⟩ (.pointer (plOf ya yn).1)).setCell ⟨B, 3, none⟩ (.int .i64 (plOf ya yn).2)).cell? ⟨B, 3, none⟩ = some (.int .i64 (plOf ya yn).2) := set_near (set_is (set_is (set_is ⟨_, f3⟩)))
        generalize (((wn3.setCell ⟨B, 0, none⟩ (.pointer (plOf xa xn).1)).setCell ⟨B, 1, none⟩ (.int .i64 (plOf xa xn).2)).setCell ⟨B, 2, none⟩ (.pointer (plOf ya yn).1)).setCell ⟨B, 3, none⟩ (.int .i64 (plOf ya yn).2) = WE at *
        refine hK.out _ _ (HSof.out _ hWE) (fun hHeld => ?_)
        clear hK K f0 f1 f2 f3 g0 g1 g2 g3 hBW
        refine wpAnyH_done (by kernel_rfl) ?_ _
        exact h _ _ _ _ _ _ _ _ _ _ _ _ _ hWE hBge ⟨e0, e1, e2, e3⟩
    · skip
      go_simp
      have hBn : Below W.heap.size W (wn0.alloc (.cells #[.pointer none, .int .i64 0, .pointer none, .int .i64 0] 127)) := hBW.alloc hBW.size _
      have hfour : Four (wn0.alloc (.cells #[.pointer none, .int .i64 0, .pointer none, .int .i64 0] 127)) wn0.heap.size (.pointer none) (.int .i64 0) (.pointer none) (.int .i64 0) := Four.new wn0 _ _ _ _ _
      refine hK.out _ _ (HSof.out _ hBn) (fun hHeld => ?_)
      have hBsz := hBW.size
      clear hK K hBW
      have hBW := hBn
      clear hBn
      obtain ⟨B, hBd⟩ : ∃ B, wn0.heap.size = B := ⟨_, rfl⟩
      have hBge : W.heap.size ≤ B := by omega
      rw [hBd] at hfour ⊢
      clear hBd
      generalize (wn0.alloc (.cells #[.pointer none, .int .i64 0, .pointer none, .int .i64 0] 127)) = WA at *
      refine wpAnyH_ready (rs := [4]) (by kernel_rfl) (by simp) ?_
      refine AllReadyH.cons rfl (fun K hK => ?_) AllReadyH.nil
      go_simp
      refine (placeOfV_any xa xn xc _ hxa hxl).mono ?_
      rintro r wn1 ⟨rfl, hbn⟩
      have hBn := hBW.trans (hbn.mono hBW.size)
      have hfn := hfour.below hbn hfour.lt
      clear hfour
      have hfour := hfn
      clear hfn
      go_wp2_with fail
      refine hK.out _ _ (HSof.out _ hBn) (fun hHeld => ?_)
      clear hK K hBW hbn
      have hBW := hBn
      clear hBn
      refine wpAnyH_ready (rs := [8]) (by kernel_rfl) (by simp) ?_
      refine AllReadyH.cons rfl (fun K hK => ?_) AllReadyH.nil
      go_simp
      refine (belowV_any yh ya yn yc _).mono ?_
      rintro r wn2 ⟨rfl, hbn⟩
      have hBn := hBW.trans (hbn.mono hBW.size)
      have hfn := hfour.below hbn hfour.lt
      clear hfour
      have hfour := hfn
      clear hfn
      go_wp2_with fail
      refine hK.out _ _ (HSof.out _ hBn) (fun hHeld => ?_)
      clear hK K hBW hbn
      have hBW := hBn
      clear hBn
      refine wpAnyH_ready (rs := [9]) (by kernel_rfl) (by simp) ?_
      refine AllReadyH.cons rfl (fun K hK => ?_) AllReadyH.nil
      go_simp
      refine (placeOfV_any ya yn yc _ hya hyl).mono ?_
      rintro r wn3 ⟨rfl, hbn⟩
      have hBn := hBW.trans (hbn.mono hBW.size)
      have hfn := hfour.below hbn hfour.lt
      clear hfour
      have hfour := hfn
      clear hfn
      go_wp2_with fail
      refine hK.out _ _ (HSof.out _ hBn) (fun hHeld => ?_)
      clear hK K hBW hbn
      have hBW := hBn
      clear hBn
      refine wpAnyH_take (i := 10) (v := pl2V (plOf xa xn, plOf ya yn)) rfl (by kernel_rfl) (by kernel_rfl) (by kernel_rfl) (fun _ _ _ h => hp _ _ _ _ _ h) (Or.inl ⟨by rfl, ?_⟩) (by assumption) ?_
      · intro w hSw
        (try dsimp only at hSw)
        unfold plV pl2V
        go_simp
      (try simp only [Act.put, List.getElem_toArray, List.getElem_cons_zero, List.getElem_cons_succ, List.setIfInBounds_toArray, List.set_cons_zero, List.set_cons_succ])
      obtain ⟨⟨f0, f1, f2, f3⟩, g0, g1, g2, g3⟩ := hfour
      refine wpAnyH_ready (rs := [12]) (by kernel_rfl) (by simp) ?_
      refine AllReadyH.cons rfl (fun K hK => ?_) AllReadyH.nil
      unfold pl2V
      go_simp
      have hWE : Below W.heap.size W ((((wn3.setCell ⟨B, 0, none⟩ (.pointer (plOf xa xn).1)).setCell ⟨B, 1, none⟩ (.int .i64 (plOf xa xn).2)).setCell ⟨B, 2, none⟩ (.pointer (plOf ya yn).1)).setCell ⟨B, 3, none⟩ (.int .i64 (plOf ya yn).2)) := (((hBW.setCell (p := ⟨B, 0, none⟩) hBge _).setCell (p := ⟨B, 1, none⟩) hBge _).setCell (p := ⟨B, 2, none⟩) hBge _).setCell (p := ⟨B, 3, none⟩) hBge _
      have e0 : ((((wn3.setCell ⟨B, 0, none⟩ (.pointer (plOf xa xn).1)).setCell ⟨B, 1, none⟩ (.int .i64 (plOf xa xn).2)).setCell ⟨B, 2, none⟩ (.pointer (plOf ya yn).1)).setCell ⟨B, 3, none⟩ (.int .i64 (plOf ya yn).2)).cell? ⟨B, 0, none⟩ = some (.pointer (plOf xa xn).1) := by rw [set_far (by omega), set_far (by omega), set_far (by omega)]; exact set_near ⟨_, f0⟩
      have e1 : ((((wn3.setCell ⟨B, 0, none⟩ (.pointer (plOf xa xn).1)).setCell ⟨B, 1, none⟩ (.int .i64 (plOf xa xn).2)).setCell ⟨B, 2, none⟩ (.pointer (plOf ya yn).1)).setCell ⟨B, 3, none⟩ (.int .i64 (plOf ya yn).2)).cell? ⟨B, 1, none⟩ = some (.int .i64 (plOf xa xn).2) := by rw [set_far (by omega), set_far (by omega)]; exact set_near (set_is ⟨_, f1⟩)
      have e2 : ((((wn3.setCell ⟨B, 0, none⟩ (.pointer (plOf xa xn).1)).setCell ⟨B, 1, none⟩ (.int .i64 (plOf xa xn).2)).setCell ⟨B, 2, none⟩ (.pointer (plOf ya yn).1)).setCell ⟨B, 3, none⟩ (.int .i64 (plOf ya yn).2)).cell? ⟨B, 2, none⟩ = some (.pointer (plOf ya yn).1) := by rw [set_far (by omega)]; exact set_near (set_is (set_is ⟨_, f2⟩))
      have e3 : ((((wn3.setCell ⟨B, 0, none⟩ (.pointer (plOf xa xn).1)).setCell ⟨B, 1, none⟩ (.int .i64 (plOf xa xn).2)).setCell ⟨B, 2, none⟩ (.pointer (plOf ya yn).1)).setCell ⟨B, 3, none⟩ (.int .i64 (plOf ya yn).2)).cell? ⟨B, 3, none⟩ = some (.int .i64 (plOf ya yn).2) := set_near (set_is (set_is (set_is ⟨_, f3⟩)))
      generalize (((wn3.setCell ⟨B, 0, none⟩ (.pointer (plOf xa xn).1)).setCell ⟨B, 1, none⟩ (.int .i64 (plOf xa xn).2)).setCell ⟨B, 2, none⟩ (.pointer (plOf ya yn).1)).setCell ⟨B, 3, none⟩ (.int .i64 (plOf ya yn).2) = WE at *
      refine hK.out _ _ (HSof.out _ hWE) (fun hHeld => ?_)
      clear hK K f0 f1 f2 f3 g0 g1 g2 g3 hBW
      refine wpAnyH_done (by kernel_rfl) ?_ _
      exact h _ _ _ _ _ _ _ _ _ _ _ _ _ hWE hBge ⟨e0, e1, e2, e3⟩
  · skip
    go_simp
    have hBn : Below W.heap.size W (W.alloc (.cells #[.pointer none, .int .i64 0, .pointer none, .int .i64 0] 127)).drew := ((Below.refl _ W).alloc (Nat.le_refl _) _).drew
    have hfour : Four (W.alloc (.cells #[.pointer none, .int .i64 0, .pointer none, .int .i64 0] 127)).drew W.heap.size (.pointer none) (.int .i64 0) (.pointer none) (.int .i64 0) := (Four.new W _ _ _ _ _).drew
    refine hK.out _ _ (HSof.out _ hBn) (fun hHeld => ?_)
    have hBsz := hBW.size
    clear hK K hBW
    have hBW := hBn
    clear hBn
    obtain ⟨B, hBd⟩ : ∃ B, W.heap.size = B := ⟨_, rfl⟩
    have hBge : W.heap.size ≤ B := by omega
    rw [hBd] at hfour ⊢
    clear hBd
    generalize (W.alloc (.cells #[.pointer none, .int .i64 0, .pointer none, .int .i64 0] 127)).drew = WA at *
    refine wpAnyH_ready (rs := [3]) (by kernel_rfl) (by simp) ?_
    refine AllReadyH.cons rfl (fun K hK => ?_) AllReadyH.nil
    go_simp
    refine (belowV_any xh xa xn xc _).mono ?_
    rintro r wn0 ⟨rfl, hbn⟩
    have hBn := hBW.trans (hbn.mono hBW.size)
    have hfn := hfour.below hbn hfour.lt
    clear hfour
    have hfour := hfn
    clear hfn
    go_wp2_with fail
    refine hK.out _ _ (HSof.out _ hBn) (fun hHeld => ?_)
    clear hK K hBW hbn
    have hBW := hBn
    clear hBn
    refine wpAnyH_ready (rs := [4]) (by kernel_rfl) (by simp) ?_
    refine AllReadyH.cons rfl (fun K hK => ?_) AllReadyH.nil
    go_simp
    refine (placeOfV_any xa xn xc _ hxa hxl).mono ?_
    rintro r wn1 ⟨rfl, hbn⟩
    have hBn := hBW.trans (hbn.mono hBW.size)
    have hfn := hfour.below hbn hfour.lt
    clear hfour
    have hfour := hfn
    clear hfn
    go_wp2_with fail
    refine hK.out _ _ (HSof.out _ hBn) (fun hHeld => ?_)
    clear hK K hBW hbn
    have hBW := hBn
    clear hBn
    refine wpAnyH_ready (rs := [8]) (by kernel_rfl) (by simp) ?_
    refine AllReadyH.cons rfl (fun K hK => ?_) AllReadyH.nil
    go_simp
    refine (belowV_any yh ya yn yc _).mono ?_
    rintro r wn2 ⟨rfl, hbn⟩
    have hBn := hBW.trans (hbn.mono hBW.size)
    have hfn := hfour.below hbn hfour.lt
    clear hfour
    have hfour := hfn
    clear hfn
    go_wp2_with fail
    refine hK.out _ _ (HSof.out _ hBn) (fun hHeld => ?_)
    clear hK K hBW hbn
    have hBW := hBn
    clear hBn
    refine wpAnyH_ready (rs := [9]) (by kernel_rfl) (by simp) ?_
    refine AllReadyH.cons rfl (fun K hK => ?_) AllReadyH.nil
    go_simp
    refine (placeOfV_any ya yn yc _ hya hyl).mono ?_
    rintro r wn3 ⟨rfl, hbn⟩
    have hBn := hBW.trans (hbn.mono hBW.size)
    have hfn := hfour.below hbn hfour.lt
    clear hfour
    have hfour := hfn
    clear hfn
    go_wp2_with fail
    refine hK.out _ _ (HSof.out _ hBn) (fun hHeld => ?_)
    clear hK K hBW hbn
    have hBW := hBn
    clear hBn
    refine wpAnyH_take (i := 10) (v := pl2V (plOf xa xn, plOf ya yn)) rfl (by kernel_rfl) (by kernel_rfl) (by kernel_rfl) (fun _ _ _ h => hp _ _ _ _ _ h) (Or.inl ⟨by rfl, ?_⟩) (by assumption) ?_
    · intro w hSw
      (try dsimp only at hSw)
      unfold plV pl2V
      go_simp
    (try simp only [Act.put, List.getElem_toArray, List.getElem_cons_zero, List.getElem_cons_succ, List.setIfInBounds_toArray, List.set_cons_zero, List.set_cons_succ])
    obtain ⟨⟨f0, f1, f2, f3⟩, g0, g1, g2, g3⟩ := hfour
    refine wpAnyH_ready (rs := [12]) (by kernel_rfl) (by simp) ?_
    refine AllReadyH.cons rfl (fun K hK => ?_) AllReadyH.nil
    unfold pl2V
    go_simp
    have hWE : Below W.heap.size W ((((wn3.setCell ⟨B, 0, none⟩ (.pointer (plOf xa xn).1)).setCell ⟨B, 1, none⟩ (.int .i64 (plOf xa xn).2)).setCell ⟨B, 2, none⟩ (.pointer (plOf ya yn).1)).setCell ⟨B, 3, none⟩ (.int .i64 (plOf ya yn).2)) := (((hBW.setCell (p := ⟨B, 0, none⟩) hBge _).setCell (p := ⟨B, 1, none⟩) hBge _).setCell (p := ⟨B, 2, none⟩) hBge _).setCell (p := ⟨B, 3, none⟩) hBge _
    have e0 : ((((wn3.setCell ⟨B, 0, none⟩ (.pointer (plOf xa xn).1)).setCell ⟨B, 1, none⟩ (.int .i64 (plOf xa xn).2)).setCell ⟨B, 2, none⟩ (.pointer (plOf ya yn).1)).setCell ⟨B, 3, none⟩ (.int .i64 (plOf ya yn).2)).cell? ⟨B, 0, none⟩ = some (.pointer (plOf xa xn).1) := by rw [set_far (by omega), set_far (by omega), set_far (by omega)]; exact set_near ⟨_, f0⟩
    have e1 : ((((wn3.setCell ⟨B, 0, none⟩ (.pointer (plOf xa xn).1)).setCell ⟨B, 1, none⟩ (.int .i64 (plOf xa xn).2)).setCell ⟨B, 2, none⟩ (.pointer (plOf ya yn).1)).setCell ⟨B, 3, none⟩ (.int .i64 (plOf ya yn).2)).cell? ⟨B, 1, none⟩ = some (.int .i64 (plOf xa xn).2) := by rw [set_far (by omega), set_far (by omega)]; exact set_near (set_is ⟨_, f1⟩)
    have e2 : ((((wn3.setCell ⟨B, 0, none⟩ (.pointer (plOf xa xn).1)).setCell ⟨B, 1, none⟩ (.int .i64 (plOf xa xn).2)).setCell ⟨B, 2, none⟩ (.pointer (plOf ya yn).1)).setCell ⟨B, 3, none⟩ (.int .i64 (plOf ya yn).2)).cell? ⟨B, 2, none⟩ = some (.pointer (plOf ya yn).1) := by rw [set_far (by omega)]; exact set_near (set_is (set_is ⟨_, f2⟩))
    have e3 : ((((wn3.setCell ⟨B, 0, none⟩ (.pointer (plOf xa xn).1)).setCell ⟨B, 1, none⟩ (.int .i64 (plOf xa xn).2)).setCell ⟨B, 2, none⟩ (.pointer (plOf ya yn).1)).setCell ⟨B, 3, none⟩ (.int .i64 (plOf ya yn).2)).cell? ⟨B, 3, none⟩ = some (.int .i64 (plOf ya yn).2) := set_near (set_is (set_is (set_is ⟨_, f3⟩)))
    generalize (((wn3.setCell ⟨B, 0, none⟩ (.pointer (plOf xa xn).1)).setCell ⟨B, 1, none⟩ (.int .i64 (plOf xa xn).2)).setCell ⟨B, 2, none⟩ (.pointer (plOf ya yn).1)).setCell ⟨B, 3, none⟩ (.int .i64 (plOf ya yn).2) = WE at *
    refine hK.out _ _ (HSof.out _ hWE) (fun hHeld => ?_)
    clear hK K f0 f1 f2 f3 g0 g1 g2 g3 hBW
    refine wpAnyH_done (by kernel_rfl) ?_ _
    exact h _ _ _ _ _ _ _ _ _ _ _ _ _ hWE hBge ⟨e0, e1, e2, e3⟩
end Go.Proofs.Ytofmimoklbkeoaa
/- Two values that are the same, by the program: the region that puts the pairs of two lists behind what is to be done. -/
namespace Go.Proofs.Ytofmimoklbkeoaa
open Go.RowKit
set_option maxRecDepth 100000 in
set_option maxHeartbeats 2000000 in
theorem sa11V {Q : Exit → Act → World → Prop} {t0 t1 t2 t3 t4 t5 t8 t9 t10 t11 t12 t13 t14 t15 t16 t17 t18 t19 t20 t21 t22 t23 t24 t25 t26 t27 t28 t29 t30 t31 t32 t33 t34 t35 t36 t37 t38 t39 t40 t41 t42 t43 t44 t45 t46 t47 t48 t49 t50 t51 t52 t53 t54 t55 t56 t57 t58 t59 t60 t61 t62 t63 t64 t65 t66 : Value} {W : World} {base pb N n : Nat} {v : Value} {xs : List Value} {xh : Hd} {xa : Option Addr} {xF : Vo} {xc : Nat} {yh : Hd} {ya : Option Addr} {yF : Vo} {yc : Nat}
    (hT : TwoV pb xh (.slice xa N xc) yh (.slice ya N yc) W) (hF : xF.In W xa) (hG : yF.In W ya) (hx : xF.len = N) (hy : yF.len = N) (hN : N ≤ 2000000) (hn : n ≤ 2000000) (hown : W.ownsRow base 124 12 v n xs) (hbase : base ≤ W.heap.size) (hne : some pb ≠ v.ownBlock)
    (hp : ∀ p d v a w, Q (.panic p) (Act.put a d v) w → Q (.panic p) a w) (h : ∀ ws v' v56 v57 v58 v59 v60 v61 v62 v63 v64 v65 v66, ws.ownsRow base 124 12 v' (n + N) (xs ++ pairCellsV xF yF N) → W.grownBy ws v.ownBlock → Q .normal { tmps := (t0 :: t1 :: t2 :: t3 :: t4 :: t5 :: v' :: .pointer (some ⟨pb, 0, none⟩) :: t8 :: t9 :: t10 :: t11 :: t12 :: t13 :: t14 :: t15 :: t16 :: t17 :: t18 :: t19 :: t20 :: t21 :: t22 :: t23 :: t24 :: t25 :: t26 :: t27 :: t28 :: t29 :: t30 :: t31 :: t32 :: t33 :: t34 :: t35 :: t36 :: t37 :: t38 :: t39 :: t40 :: t41 :: t42 :: t43 :: t44 :: t45 :: t46 :: t47 :: t48 :: t49 :: t50 :: t51 :: t52 :: t53 :: t54 :: t55 :: v56 :: v57 :: v58 :: v59 :: v60 :: v61 :: v62 :: v63 :: v64 :: v65 :: v66 :: []).toArray, defers := [] } ws) :
    Code.wp Try.prog (Code.region 11 #[{ dst := some 56, op := Op.move (Operand.tmp 6), type := 125, pos := "l3_tree.go:386", after := #[], guard := none }, { dst := some 57, op := Op.fieldAddr 124 (Operand.tmp 7) 0, type := 0, pos := "l3_tree.go:386", after := #[], guard := none }, { dst := some 58, op := Op.load 33 (Operand.tmp 57), type := 33, pos := "l3_tree.go:386", after := #[{ on := 1, ground := Ground.data }], guard := none }, { dst := some 59, op := Op.makeInterface 33 (Operand.tmp 58), type := 20, pos := "l3_tree.go:386", after := #[{ on := 2, ground := Ground.data }], guard := none }, { dst := some 60, op := Op.call { callee := Callee.invoke (Operand.tmp 59) "loop.example/chancery/impl.below", args := #[], argTypes := #[] }, type := 31, pos := "l3_tree.go:386", after := #[{ on := 3, ground := Ground.data }], guard := none }, { dst := some 61, op := Op.fieldAddr 124 (Operand.tmp 7) 1, type := 0, pos := "l3_tree.go:386", after := #[], guard := none }, { dst := some 62, op := Op.load 33 (Operand.tmp 61), type := 33, pos := "l3_tree.go:386", after := #[{ on := 5, ground := Ground.data }], guard := none }, { dst := some 63, op := Op.makeInterface 33 (Operand.tmp 62), type := 20, pos := "l3_tree.go:386", after := #[{ on := 6, ground := Ground.data }], guard := none }, { dst := some 64, op := Op.call { callee := Callee.invoke (Operand.tmp 63) "loop.example/chancery/impl.below", args := #[], argTypes := #[] }, type := 31, pos := "l3_tree.go:386", after := #[{ on := 7, ground := Ground.data }, { on := 4, ground := Ground.chain }], guard := none }, { dst := some 65, op := Op.call { callee := Callee.value (Operand.func 104), args := #[Operand.tmp 60, Operand.tmp 64], argTypes := #[31, 31] }, type := 125, pos := "l3_tree.go:386", after := #[{ on := 4, ground := Ground.data }, { on := 8, ground := Ground.data }, { on := 8, ground := Ground.chain }], guard := none }, { dst := some 66, op := Op.call { callee := Callee.builtin Builtin.append, args := #[Operand.tmp 56, Operand.tmp 65], argTypes := #[125, 125] }, type := 125, pos := "l3_tree.go:386", after := #[{ on := 0, ground := Ground.data }, { on := 9, ground := Ground.data }, { on := 9, ground := Ground.chain }], guard := none }, { dst := some 6, op := Op.assign (Operand.tmp 66), type := 125, pos := "l3_tree.go:386", after := #[{ on := 10, ground := Ground.data }, { on := 10, ground := Ground.chain }, { on := 0, ground := Ground.phase }, { on := 1, ground := Ground.phase }, { on := 2, ground := Ground.phase }, { on := 3, ground := Ground.phase }, { on := 4, ground := Ground.phase }, { on := 5, ground := Ground.phase }, { on := 6, ground := Ground.phase }, { on := 7, ground := Ground.phase }, { on := 8, ground := Ground.phase }, { on := 9, ground := Ground.phase }, { on := 10, ground := Ground.phase }], guard := none }] true) Q { tmps := (t0 :: t1 :: t2 :: t3 :: t4 :: t5 :: v :: .pointer (some ⟨pb, 0, none⟩) :: t8 :: t9 :: t10 :: t11 :: t12 :: t13 :: t14 :: t15 :: t16 :: t17 :: t18 :: t19 :: t20 :: t21 :: t22 :: t23 :: t24 :: t25 :: t26 :: t27 :: t28 :: t29 :: t30 :: t31 :: t32 :: t33 :: t34 :: t35 :: t36 :: t37 :: t38 :: t39 :: t40 :: t41 :: t42 :: t43 :: t44 :: t45 :: t46 :: t47 :: t48 :: t49 :: t50 :: t51 :: t52 :: t53 :: t54 :: t55 :: t56 :: t57 :: t58 :: t59 :: t60 :: t61 :: t62 :: t63 :: t64 :: t65 :: t66 :: []).toArray, defers := [] } W := by
  subst hx
  have hmeth := belowV_method
  obtain ⟨i0, hi, hz0, hz1, hz2⟩ := info_parts pairInfoV
  have hpl := hT.lt
  have HSof : Hid (∀ w', Below W.heap.size W w' → TwoV pb xh (.slice xa xF.len xc) yh (.slice ya xF.len yc) w') := fun w' h => hT.same (h.block _ hpl)
  have HOwn : Hid (∀ w', Below W.heap.size W w' → w'.ownsRow base 124 12 v n xs) := fun w' h => hown.kept (row := none) ⟨h.os, h.tape, h.output, h.size, fun k hk _ => h.block k hk⟩ (ob_or v)
  have HI : Hid (∀ w', Below W.heap.size W w' → xF.In w' xa ∧ yF.In w' ya) := fun w' h => ⟨hF.grow h, hG.grow h⟩
  have HL : Hid (xF.len = yF.len) := hy.symm
  have hS0 := HSof.out _ ((Below.refl _ W).drew)
  clear hT hF hG hy hown
  refine wp_region_held_drew (S := fun w' => TwoV pb xh (.slice xa xF.len xc) yh (.slice ya xF.len yc) w') (by kernel_rfl) hS0 (fun hHeld => ?_)
  refine wpAnyH_take (i := 0) (v := v) rfl (by kernel_rfl) (by kernel_rfl) (by kernel_rfl) (fun _ _ _ h => hp _ _ _ _ _ h) (Or.inl ⟨by rfl, ?_⟩) (by assumption) ?_
  · intro w hSw
    (try dsimp only at hSw)
    go_simp
  (try simp only [Act.put, List.getElem_toArray, List.getElem_cons_zero, List.setIfInBounds_toArray, List.set_cons_zero, List.set_cons_succ])
  refine wpAnyH_take (i := 1) (v := .pointer (some ⟨pb, 0, none⟩)) rfl (by kernel_rfl) (by kernel_rfl) (by kernel_rfl) (fun _ _ _ h => hp _ _ _ _ _ h) (Or.inl ⟨by rfl, ?_⟩) (by assumption) ?_
  · intro w hSw
    (try dsimp only at hSw)
    go_simp
  (try simp only [Act.put, List.getElem_toArray, List.getElem_cons_zero, List.getElem_cons_succ, List.setIfInBounds_toArray, List.set_cons_zero, List.set_cons_succ])
  refine wpAnyH_take (i := 2) (v := valV xh xa xF.len xc) rfl (by kernel_rfl) (by kernel_rfl) (by kernel_rfl) (fun _ _ _ h => hp _ _ _ _ _ h) (Or.inl ⟨by rfl, ?_⟩) (by assumption) ?_
  · intro w hSw
    (try dsimp only at hSw)
    go_simp
  (try simp only [Act.put, List.getElem_toArray, List.getElem_cons_zero, List.getElem_cons_succ, List.setIfInBounds_toArray, List.set_cons_zero, List.set_cons_succ])
  refine wpAnyH_take (i := 3) (v := .iface 33 (valV xh xa xF.len xc)) rfl (by kernel_rfl) (by kernel_rfl) (by kernel_rfl) (fun _ _ _ h => hp _ _ _ _ _ h) (Or.inl ⟨by rfl, ?_⟩) (by assumption) ?_
  · intro w hSw
    (try dsimp only at hSw)
    go_simp
  (try simp only [Act.put, List.getElem_toArray, List.getElem_cons_zero, List.getElem_cons_succ, List.setIfInBounds_toArray, List.set_cons_zero, List.set_cons_succ])
  refine wpAnyH_take (i := 5) (v := .pointer (some ⟨pb, 6, none⟩)) rfl (by kernel_rfl) (by kernel_rfl) (by kernel_rfl) (fun _ _ _ h => hp _ _ _ _ _ h) (Or.inl ⟨by rfl, ?_⟩) (by assumption) ?_
  · intro w hSw
    (try dsimp only at hSw)
    go_simp
  (try simp only [Act.put, List.getElem_toArray, List.getElem_cons_zero, List.getElem_cons_succ, List.setIfInBounds_toArray, List.set_cons_zero, List.set_cons_succ])
  refine wpAnyH_take (i := 6) (v := valV yh ya xF.len yc) rfl (by kernel_rfl) (by kernel_rfl) (by kernel_rfl) (fun _ _ _ h => hp _ _ _ _ _ h) (Or.inl ⟨by rfl, ?_⟩) (by assumption) ?_
  · intro w hSw
    (try dsimp only at hSw)
    go_simp
  (try simp only [Act.put, List.getElem_toArray, List.getElem_cons_zero, List.getElem_cons_succ, List.setIfInBounds_toArray, List.set_cons_zero, List.set_cons_succ])
  refine wpAnyH_take (i := 7) (v := .iface 33 (valV yh ya xF.len yc)) rfl (by kernel_rfl) (by kernel_rfl) (by kernel_rfl) (fun _ _ _ h => hp _ _ _ _ _ h) (Or.inl ⟨by rfl, ?_⟩) (by assumption) ?_
  · intro w hSw
    (try dsimp only at hSw)
    go_simp
  (try simp only [Act.put, List.getElem_toArray, List.getElem_cons_zero, List.getElem_cons_succ, List.setIfInBounds_toArray, List.set_cons_zero, List.set_cons_succ])
  have hB0 := (Below.refl W.heap.size W).drew
  refine wpAnyH_ready (rs := [4]) (by kernel_rfl) (by simp) ?_
  refine AllReadyH.cons rfl (fun K hK => ?_) AllReadyH.nil
  go_simp
  refine (belowV_any xh xa xF.len xc _).mono ?_
  rintro r w1 ⟨rfl, hb1⟩
  have hB1 := hB0.trans (hb1.mono hB0.size)
  go_wp2_with fail
  refine hK.out _ _ (HSof.out _ hB1) (fun hHeld => ?_)
  clear hK K hB0 hb1
  refine wpAnyH_ready (rs := [8]) (by kernel_rfl) (by simp) ?_
  refine AllReadyH.cons rfl (fun K hK => ?_) AllReadyH.nil
  go_simp
  refine (belowV_any yh ya xF.len yc _).mono ?_
  rintro r w2 ⟨rfl, hb2⟩
  have hB2 := hB1.trans (hb2.mono hB1.size)
  go_wp2_with fail
  refine hK.out _ _ (HSof.out _ hB2) (fun hHeld => ?_)
  clear hK K hB1 hb2
  refine wpAnyH_ready (rs := [9]) (by kernel_rfl) (by simp) ?_
  refine AllReadyH.cons rfl (fun K hK => ?_) AllReadyH.nil
  go_simp
  refine (pairsOfV_any xF yF xa ya xc yc _ HL.out (HI.out _ hB2).1 (HI.out _ hB2).2 hN).mono ?_
  rintro r w3 ⟨⟨v9, rfl, hown9⟩, hb3⟩
  have hB3 := hB2.trans (hb3.mono hB2.size)
  go_wp2_with fail
  refine hK.out _ _ (HSof.out _ hB3) (fun hHeld => ?_)
  clear hK K hb3
  refine wpAnyH_ready (rs := [10]) (by kernel_rfl) (by simp) ?_
  refine AllReadyH.cons rfl (fun K hK => ?_) AllReadyH.nil
  refine wp_append_two w3 _ _ 125 rfl base w2.heap.size 124 i0 _ 12 176 Try.underlying125 hi hz0 hz1 hz2 rfl (by decide) v n xs rfl (HOwn.out _ hB3) v9 xF.len (pairCellsV xF yF xF.len) rfl hown9 (pairCellsV_one _ _ _) (by unfold maxLen; omega) (by omega) (Nat.le_trans hbase hB3.size) ?_
  intro v' w4 hown4 hgr4
  have hT4 : TwoV pb xh (.slice xa xF.len xc) yh (.slice ya xF.len yc) w4 := (HSof.out _ hB3).same (hgr4.block pb (Nat.lt_of_lt_of_le hpl hB3.size) hne)
  refine hK.out _ _ hT4 (fun hHeld => ?_)
  clear hK K
  (try simp only [Act.put, List.getElem_toArray, List.getElem_cons_zero, List.getElem_cons_succ, List.setIfInBounds_toArray, List.set_cons_zero, List.set_cons_succ])
  refine wpAnyH_take (i := 11) (v := v') rfl (by kernel_rfl) (by kernel_rfl) (by kernel_rfl) (fun _ _ _ h => hp _ _ _ _ _ h) (Or.inl ⟨by rfl, ?_⟩) (by assumption) ?_
  · intro w hSw
    (try dsimp only at hSw)
    go_simp
  (try simp only [Act.put, List.getElem_toArray, List.getElem_cons_zero, List.getElem_cons_succ, List.setIfInBounds_toArray, List.set_cons_zero, List.set_cons_succ])
  refine wpAnyH_done (by kernel_rfl) ?_ _
  exact h _ _ _ _ _ _ _ _ _ _ _ _ _ hown4 (grown_trans ⟨hB3.os, hB3.tape, hB3.output, hB3.size, fun k hk _ => hB3.block k hk⟩ hgr4)
end Go.Proofs.Ytofmimoklbkeoaa
/- Two values that are the same, by the program: the loop walked. -/
namespace Go.Proofs.Ytofmimoklbkeoaa
open Go.RowKit
theorem row_ne_mapV {w : World} {base size g n cap mb : Nat} {e : TypeId} {xs : List Value} {L : List (Pl2 × Value)} (h : w.ownsRow base e size (.slice (some ⟨g, 0, none⟩) n cap) n xs) (hm : pl2KeysV.Has w mb L) : g ≠ mb := by
  intro e'
  obtain ⟨es, clock, hh, _⟩ := hm
  rcases h.2 with ⟨h', _⟩ | ⟨g', cap', cur, h', _, hg, _⟩
  · cases h'
  · simp only [Value.slice.injEq, Option.some.injEq, Addr.mk.injEq, and_true, true_and] at h'
    obtain ⟨rfl, rfl⟩ := h'
    rw [e', hh] at hg
    cases hg
set_option maxRecDepth 100000 in
set_option maxHeartbeats 2000000 in
theorem sameAllV_any (x y : ItV) (w : World) (hx : x.F.In w x.a) (hy : y.F.In w y.a) (hs : x.F.size ≤ 1100000) (hgx : x.Good w) (hgy : y.Good w) (hhx : x.h.In w) (hhy : y.h.In w) :
    Calls Try.prog 90 #[valV x.h x.a x.F.len x.c, valV y.h y.a y.F.len y.c] w fun r w' => SaysT (same2V (x, y)) r ∧ Below w.heap.size w w' := by
  have hmm : ∀ W, (Instr.makeMap 122 none).run Try.prog W = .ok (.map (some W.heap.size)) (W.alloc (.map #[] 0)) := fun W => run_makeMap _ _
  have hmeth := belowV_method
  have hmeth2 := sameHeadV_method
  go_enter Try.func90, Try.ntmps90
  go_wp2_with fail
  go_loopw [6] (fun v wr => ∃ n, SameInvV w x y v wr n) (fun v wr => least (SameInvV w x y v wr))
  case atStart =>
    refine ⟨_, [(x, y)], [], [], LoopV.start ⟨hx, hy⟩ ⟨hhx, hhy⟩, ?_, ?_, ?_, ?_, rfl⟩
    · intro p hp
      rcases hp with hp | hp
      · cases hp
      · rw [List.mem_singleton] at hp; subst hp; exact ⟨hgx, hgy⟩
    · have h := World.ownsRow_lit (base := w.heap.size) (e := 124) (size := 12) (((w.alloc (.cells #[.int .i64 x.h.k, .int .i64 x.h.m, .int .i64 x.h.e, .string x.h.t, .slice x.a x.F.len x.c, .slice x.h.na x.h.ns.length x.h.nc] 33)).alloc (.cells #[.int .i64 y.h.k, .int .i64 y.h.m, .int .i64 y.h.e, .string y.h.t, .slice y.a y.F.len y.c, .slice y.h.na y.h.ns.length y.h.nc] 33)).alloc (.map #[] 0)) #[.int .i64 x.h.k, .int .i64 x.h.m, .int .i64 x.h.e, .string x.h.t, .slice x.a x.F.len x.c, .slice x.h.na x.h.ns.length x.h.nc, .int .i64 y.h.k, .int .i64 y.h.m, .int .i64 y.h.e, .string y.h.t, .slice y.a y.F.len y.c, .slice y.h.na y.h.ns.length y.h.nc] 1 (by simp; omega) (by unfold maxLen; omega) rfl
      have e : (((w.alloc (.cells #[.int .i64 x.h.k, .int .i64 x.h.m, .int .i64 x.h.e, .string x.h.t, .slice x.a x.F.len x.c, .slice x.h.na x.h.ns.length x.h.nc] 33)).alloc (.cells #[.int .i64 y.h.k, .int .i64 y.h.m, .int .i64 y.h.e, .string y.h.t, .slice y.a y.F.len y.c, .slice y.h.na y.h.ns.length y.h.nc] 33)).alloc (.map #[] 0)).heap.size = w.heap.size + 1 + 1 + 1 := by simp
      rw [e] at h
      exact h
    · have e : ((w.alloc (.cells #[.int .i64 x.h.k, .int .i64 x.h.m, .int .i64 x.h.e, .string x.h.t, .slice x.a x.F.len x.c, .slice x.h.na x.h.ns.length x.h.nc] 33)).alloc (.cells #[.int .i64 y.h.k, .int .i64 y.h.m, .int .i64 y.h.e, .string y.h.t, .slice y.a y.F.len y.c, .slice y.h.na y.h.ns.length y.h.nc] 33)).heap.size = w.heap.size + 1 + 1 := by simp
      refine pl2KeysV.has_new _ _ ((Below.heap_alloc _ _ _ (by simp)).trans ?_)
      rw [← e]
      exact heap_alloc_new _ _
    · exact (by (repeat' (first | assumption | exact Below.refl _ _ | refine Below.alloc ?_ ?_ _ | refine Below.setCell ?_ ?_ _ | refine Below.drew ?_ | refine below_drewN ?_ _)) <;> (first | omega | (simp <;> omega)))
  case round =>
    have hM := least_spec hrel
    have HMu : Hid (∀ v' wr' n', SameInvV w x y v' wr' n' → n' < least (SameInvV w x y u6 wr) → least (SameInvV w x y v' wr') < least (SameInvV w x y u6 wr)) := fun v' wr' n' h1 h2 => Nat.lt_of_le_of_lt (least_le h1) h2
    obtain ⟨S, L, D, hL, hgd, hown, hmap, hb, hws⟩ := hM
    have HWs : Hid (wsumV S = least (SameInvV w x y u6 wr)) := hws
    have HL : Hid (LoopV w (x, y) (x.F.size + 1) S L D) := hL
    have HG : Hid (∀ p, p ∈ D ∨ p ∈ S → p.1.Good w ∧ p.2.Good w) := hgd
    clear hL hrel hgd hws
    rcases List.eq_nil_or_concat S with rfl | ⟨S, p, rfl⟩
    · have HR : Hid (same2V (x, y)) := HL.out.done
      rcases hown.2 with ⟨rfl, _⟩ | ⟨g, cap, cur, rfl, _⟩
      · go_wp2_with fail
        go_ret
        exact ⟨⟨true, rfl, fun _ => HR.out, fun _ => rfl⟩, hb⟩
      · go_wp2_with fail
        go_ret
        exact ⟨⟨true, rfl, fun _ => HR.out, fun _ => rfl⟩, hb⟩
    · rw [List.concat_eq_append] at HL HG HWs hown
      rw [List.length_append, List.length_singleton] at hown
      obtain ⟨g, cap, rfl, hg1, hg2⟩ := hown.form (by omega)
      have hpop := row_popV hown
      have q0 : wr.cell? ⟨g, S.length * 12, none⟩ = some (.int .i64 p.1.h.k) := row_lastV hown 0 (by omega)
      have q1 : wr.cell? ⟨g, S.length * 12 + 1, none⟩ = some (.int .i64 p.1.h.m) := row_lastV hown 1 (by omega)
      have q2 : wr.cell? ⟨g, S.length * 12 + 2, none⟩ = some (.int .i64 p.1.h.e) := row_lastV hown 2 (by omega)
      have q3 : wr.cell? ⟨g, S.length * 12 + 3, none⟩ = some (.string p.1.h.t) := row_lastV hown 3 (by omega)
      have q4 : wr.cell? ⟨g, S.length * 12 + 4, none⟩ = some (.slice p.1.a p.1.F.len p.1.c) := row_lastV hown 4 (by omega)
      have q5 : wr.cell? ⟨g, S.length * 12 + 5, none⟩ = some (.slice p.1.h.na p.1.h.ns.length p.1.h.nc) := row_lastV hown 5 (by omega)
      have q6 : wr.cell? ⟨g, S.length * 12 + 6, none⟩ = some (.int .i64 p.2.h.k) := row_lastV hown 6 (by omega)
      have q7 : wr.cell? ⟨g, S.length * 12 + 7, none⟩ = some (.int .i64 p.2.h.m) := row_lastV hown 7 (by omega)
      have q8 : wr.cell? ⟨g, S.length * 12 + 8, none⟩ = some (.int .i64 p.2.h.e) := row_lastV hown 8 (by omega)
      have q9 : wr.cell? ⟨g, S.length * 12 + 9, none⟩ = some (.string p.2.h.t) := row_lastV hown 9 (by omega)
      have q10 : wr.cell? ⟨g, S.length * 12 + 10, none⟩ = some (.slice p.2.a p.2.F.len p.2.c) := row_lastV hown 10 (by omega)
      have q11 : wr.cell? ⟨g, S.length * 12 + 11, none⟩ = some (.slice p.2.h.na p.2.h.ns.length p.2.h.nc) := row_lastV hown 11 (by omega)
      have hlen : S.length ≤ 1100000 := by
        have h1 := HL.out.room
        have h2 := wsum_lengthV (S ++ [p])
        rw [List.length_append, List.length_singleton] at h2
        omega
      have hcap : (S.length : Int) ≤ (cap : Int) ∧ cap ≤ maxLen := by
        rcases hown.2 with ⟨h', _⟩ | ⟨g', cap', cur, h', h2, h3, h4, h5, h6, h7⟩
        · cases h'
        · simp only [Value.slice.injEq, Option.some.injEq, Addr.mk.injEq, and_true, true_and] at h'
          obtain ⟨rfl, rfl⟩ := h'
          exact ⟨by omega, h5⟩
      obtain ⟨hcap1, hcap2⟩ := hcap
      unfold maxLen at hcap2
      clear hown
      have HN : ∀ (n : Nat), S.length = n → True := fun _ _ => trivial
      clear HN
      obtain ⟨n, hn⟩ : ∃ n, S.length = n := ⟨_, rfl⟩
      have HSn : Hid (S.length = n) := hn
      rw [hn] at HMu HWs q0 q1 q2 q3 q4 q5 q6 q7 q8 q9 q10 q11 hlen hcap1 hpop ⊢
      clear hn
      have hn1 : (0 : Int) < (n : Int) + 1 := by omega
      obtain ⟨⟨xh, xa, xF, xc⟩, yh, ya, yF, yc⟩ := p
      dsimp only at q0 q1 q2 q3 q4 q5 q6 q7 q8 q9 q10 q11
      have hB0 := hb.alloc hb.size (.cells #[.int .i64 xh.k, .int .i64 xh.m, .int .i64 xh.e, .string xh.t, .slice xa xF.len xc, .slice xh.na xh.ns.length xh.nc, .int .i64 yh.k, .int .i64 yh.m, .int .i64 yh.e, .string yh.t, .slice ya yF.len yc, .slice yh.na yh.ns.length yh.nc] 124)
      have HHd : Hid (∀ W, Below w.heap.size w W → xh.In W ∧ yh.In W) := fun W h => by
        have hq := HL.out.hdin (⟨xh, xa, xF, xc⟩, ⟨yh, ya, yF, yc⟩) (.inr (by simp))
        exact ⟨hq.1.grow h, hq.2.grow h⟩
      go_wp2_with fail
      refine (sameHeadV_any xh yh xa ya xF.len xc yF.len yc _ (HHd.out _ hB0).1 (HHd.out _ hB0).2).mono ?_
      rintro r w1 ⟨rfl, hb1⟩
      have hB1 := hB0.trans (hb1.mono hB0.size)
      have hpl : wr.heap.size < w1.heap.size := by have := hb1.size; simp at this; omega
      have hbx : (wr.alloc (.cells #[.int .i64 xh.k, .int .i64 xh.m, .int .i64 xh.e, .string xh.t, .slice xa xF.len xc, .slice xh.na xh.ns.length xh.nc, .int .i64 yh.k, .int .i64 yh.m, .int .i64 yh.e, .string yh.t, .slice ya yF.len yc, .slice yh.na yh.ns.length yh.nc] 124)).heap.size = wr.heap.size + 1 := by simp
      have b0 : w1.cell? ⟨wr.heap.size, 0, none⟩ = some (.int .i64 xh.k) := (hb1.cell (p := ⟨wr.heap.size, 0, none⟩) (by simp)).trans (by simp)
      have b1 : w1.cell? ⟨wr.heap.size, 1, none⟩ = some (.int .i64 xh.m) := (hb1.cell (p := ⟨wr.heap.size, 1, none⟩) (by simp)).trans (by simp)
      have b2 : w1.cell? ⟨wr.heap.size, 2, none⟩ = some (.int .i64 xh.e) := (hb1.cell (p := ⟨wr.heap.size, 2, none⟩) (by simp)).trans (by simp)
      have b3 : w1.cell? ⟨wr.heap.size, 3, none⟩ = some (.string xh.t) := (hb1.cell (p := ⟨wr.heap.size, 3, none⟩) (by simp)).trans (by simp)
      have b4 : w1.cell? ⟨wr.heap.size, 4, none⟩ = some (.slice xa xF.len xc) := (hb1.cell (p := ⟨wr.heap.size, 4, none⟩) (by simp)).trans (by simp)
      have b5 : w1.cell? ⟨wr.heap.size, 5, none⟩ = some (.slice xh.na xh.ns.length xh.nc) := (hb1.cell (p := ⟨wr.heap.size, 5, none⟩) (by simp)).trans (by simp)
      have b6 : w1.cell? ⟨wr.heap.size, 6, none⟩ = some (.int .i64 yh.k) := (hb1.cell (p := ⟨wr.heap.size, 6, none⟩) (by simp)).trans (by simp)
      have b7 : w1.cell? ⟨wr.heap.size, 7, none⟩ = some (.int .i64 yh.m) := (hb1.cell (p := ⟨wr.heap.size, 7, none⟩) (by simp)).trans (by simp)
      have b8 : w1.cell? ⟨wr.heap.size, 8, none⟩ = some (.int .i64 yh.e) := (hb1.cell (p := ⟨wr.heap.size, 8, none⟩) (by simp)).trans (by simp)
      have b9 : w1.cell? ⟨wr.heap.size, 9, none⟩ = some (.string yh.t) := (hb1.cell (p := ⟨wr.heap.size, 9, none⟩) (by simp)).trans (by simp)
      have b10 : w1.cell? ⟨wr.heap.size, 10, none⟩ = some (.slice ya yF.len yc) := (hb1.cell (p := ⟨wr.heap.size, 10, none⟩) (by simp)).trans (by simp)
      have b11 : w1.cell? ⟨wr.heap.size, 11, none⟩ = some (.slice yh.na yh.ns.length yh.nc) := (hb1.cell (p := ⟨wr.heap.size, 11, none⟩) (by simp)).trans (by simp)
      have hmlt : w.heap.size + 1 + 1 < wr.heap.size := by obtain ⟨es, clock, h, _⟩ := hmap; exact (Array.getElem?_eq_some_iff.1 h).1
      have hbox := (Below.refl wr.heap.size wr).alloc (Nat.le_refl _) (.cells #[.int .i64 xh.k, .int .i64 xh.m, .int .i64 xh.e, .string xh.t, .slice xa xF.len xc, .slice xh.na xh.ns.length xh.nc, .int .i64 yh.k, .int .i64 yh.m, .int .i64 yh.e, .string yh.t, .slice ya yF.len yc, .slice yh.na yh.ns.length yh.nc] 124)
      have hw1 : Below wr.heap.size wr w1 := hbox.trans (hb1.mono (by simp))
      have HM : Hid (∀ W, Below w1.heap.size w1 W → pl2KeysV.Has W (w.heap.size + 1 + 1) L ∧ W.ownsRow w.heap.size 124 12 (.slice (some ⟨g, 0, none⟩) n cap) n (S.flatMap pcellsV) ∧ Below w.heap.size w W) := fun W h => by
        have hW := hw1.trans (h.mono hw1.size)
        exact ⟨hmap.same _ (hW.block _ hmlt), hpop.kept (row := none) ⟨hW.os, hW.tape, hW.output, hW.size, fun k hk _ => hW.block k hk⟩ (.inr (fun e => by cases e)), hb.trans (hW.mono hb.size)⟩
      clear q0 q1 q2 q3 q4 q5 q6 q7 q8 q9 q10 q11 hb1 hbx hbox hw1 hpop hmap hB0
      have hxs : xF.size ≤ 1100000 := by
        have h1 := HL.out.room
        rw [wsum_appendV] at h1
        have h2 : wsumV [((⟨xh, xa, xF, xc⟩, ⟨yh, ya, yF, yc⟩) : It2V)] = xF.size + 1 + 0 := rfl
        omega
      have hxl : xF.len ≤ 2000000 := by have := xF.len_le; omega
      clear hxs
      have HLie : Hid (xF.In w xa ∧ yF.In w ya) := HL.out.lie (⟨xh, xa, xF, xc⟩, ⟨yh, ya, yF, yc⟩) (.inr (by simp))
      generalize hhs : headSameV xh xF.len yh yF.len = hsm
      cases hsm
      · have HR : Hid (¬ same2V (x, y)) := HL.out.fails (p := (⟨xh, xa, xF, xc⟩, ⟨yh, ya, yF, yc⟩)) hhs
        go_wp2_with fail
        go_ret
        exact ⟨⟨false, rfl, fun h => (by cases h), fun h => absurd h HR.out⟩, hB1⟩
      · have HYN : Hid (yF.len = xF.len) := ((hsame_iffV (⟨xh, xa, xF, xc⟩, ⟨yh, ya, yF, yc⟩)).1 hhs).2.symm
        have HHS : Hid (hsameV (⟨xh, xa, xF, xc⟩, ⟨yh, ya, yF, yc⟩) = true) := hhs
        clear hhs
        have hyl : yF.len ≤ 2000000 := by rw [HYN.out]; exact hxl
        have hT1 : TwoV wr.heap.size xh (.slice xa xF.len xc) yh (.slice ya yF.len yc) w1 := ⟨⟨b0, b1, b2, b3, b4, b5⟩, b6, b7, b8, b9, b10, b11⟩
        clear b0 b1 b2 b3 b4 b5 b6 b7 b8 b9 b10 b11
        go_wp2_with fail
        refine sa8V hT1 (len_orV HLie.out.1) (len_orV HLie.out.2) hxl hyl (fun _ d _ _ _ h => by cases d <;> exact h) ?_
        intro WE B v35 v36 v37 v38 v39 v40 v41 v42 v43 v44 v45 hWE hBge hFC
        obtain ⟨hmE, hrE, hbE⟩ := HM.out _ hWE
        have hgp := HG.out (⟨xh, xa, xF, xc⟩, ⟨yh, ya, yF, yc⟩) (.inr (by simp))
        obtain ⟨n0, hg0, hn0, hcase⟩ := HL.out.count (plOf xa xF.len, plOf ya yF.len)
        have hTE := hT1.same (hWE.block _ hpl)
        have hBmb : B ≠ w.heap.size + 1 + 1 := by omega
        go_wp2_with fail
        refine sa9V (K := (plOf xa xF.len, plOf ya yF.len)) hmE ⟨hgp.1.1.below hbE, hgp.2.1.below hbE⟩ (HL.out.keysOk HG.out hbE) hg0 (by omega) hFC hBmb (fun _ d _ _ _ h => by cases d <;> exact h) ?_
        intro ws v46 v47 v48 v49 v50 v51 hmS hgr hszs
        have hgne := row_ne_mapV hrE hmE
        have hrS := hrE.kept hgr (.inr (fun e => hgne (Option.some.inj e)))
        have hTS := hTE.same (hgr.block wr.heap.size (Nat.lt_of_lt_of_le hpl hWE.size) (fun e => by have := Option.some.inj e; omega))
        have hFS := FourC.grown hgr (fun e => hBmb (Option.some.inj e)) hFC
        have hbS : Below w.heap.size w ws := hbE.grown hgr hbE.size (fun k hk => by have := Option.some.inj hk; omega)
        have hz : (zeroValue 3).run Try.prog ws = .ok (.int .i64 0) ws := by kernel_rfl
        have hoks : ∀ q ∈ putL (plOf xa xF.len, plOf ya yF.len) (.int .i64 ((n0 : Int) + 1)) L, pl2KeysV.ok ws q.1 := fun q hq => by
          rcases putL_keys _ _ L q hq with e | hq
          · rw [e]; exact ⟨hgp.1.1.below hbS, hgp.2.1.below hbS⟩
          · exact HL.out.keysOk HG.out hbS q hq
        have hlook0 := pl2KeysV.look (mty := 122) (et := 3) Try.underlying122 (plOf xa xF.len, plOf ya yF.len) ⟨hgp.1.1.below hbS, hgp.2.1.below hbS⟩ hoks hmS.is hz
        rw [getL_put, if_pos rfl] at hlook0
        have hlook : (Instr.lookup 122 (.map (some (w.heap.size + 1 + 1))) (.agg #[.pointer (plOf xa xF.len).1, .int .i64 (plOf xa xF.len).2, .pointer (plOf ya yF.len).1, .int .i64 (plOf ya yF.len).2]) false).run Try.prog ws = .ok (.int .i64 ((n0 : Int) + 1)) ws := hlook0
        have HTS : Hid (TwoV wr.heap.size xh (.slice xa xF.len xc) yh (.slice ya xF.len yc) ws) := by rw [HYN.out] at hTS; exact hTS
        have HMS : Hid (pl2KeysV.Has ws (w.heap.size + 1 + 1) (putL (plOf xa xF.len, plOf ya yF.len) (.int .i64 ((n0 : Int) + 1)) L)) := hmS
        have HRS : Hid (ws.ownsRow w.heap.size 124 12 (.slice (some ⟨g, 0, none⟩) n cap) n (S.flatMap pcellsV)) := hrS
        have hgpb : g ≠ wr.heap.size := by omega
        obtain ⟨f0, f1, f2, f3⟩ := hFS
        clear hlook0 hoks hz hgp hmE hrE hbE hTE hT1 hFC hgr hszs hmS hrS hTS hg0
        rcases hcase with rfl | ⟨hn01, hcase⟩
        · have hlook' : (Instr.lookup 122 (.map (some (w.heap.size + 1 + 1))) (.agg #[.pointer (plOf xa xF.len).1, .int .i64 (plOf xa xF.len).2, .pointer (plOf ya yF.len).1, .int .i64 (plOf ya yF.len).2]) false).run Try.prog ws = .ok (.int .i64 1) ws := hlook
          clear hlook
          go_wp2_with fail
          refine sa11V (base := w.heap.size) (n := n) (N := xF.len) (xs := S.flatMap pcellsV) HTS.out (HLie.out.1.grow hbS) (HLie.out.2.grow hbS) rfl HYN.out hxl (by omega) HRS.out hbS.size (fun e => hgpb (Option.some.inj e).symm) (fun _ d _ _ _ h => by cases d <;> exact h) ?_
          intro w6 v6 v56 v57 v58 v59 v60 v61 v62 v63 v64 v65 v66 hr6 hgr6
          have hb6 : Below w.heap.size w w6 := hbS.grown hgr6 hbS.size (fun k hk => by have : g = k := Option.some.inj hk; omega)
          have hm6 := HMS.out.same _ (hgr6.block (w.heap.size + 1 + 1) (by obtain ⟨es, clock, h, _⟩ := HMS.out; exact (Array.getElem?_eq_some_iff.1 h).1) (fun e => hgne (Option.some.inj e).symm))
          have hinv : SameInvV w x y v6 w6 (wsumV (S ++ kidPairsV xF yF xF.len)) := ⟨S ++ kidPairsV xF yF xF.len, _, _, HL.out.new (p := (⟨xh, xa, xF, xc⟩, ⟨yh, ya, yF, yc⟩)) HHS.out, good_newV (p := (⟨xh, xa, xF, xc⟩, ⟨yh, ya, yF, yc⟩)) HHS.out HG.out, by rw [List.length_append, kidPairs_lengthV, HSn.out, List.flatMap_append, kidPairs_cellsV]; exact hr6, hm6, hb6, rfl⟩
          have HInv : Hid (SameInvV w x y v6 w6 (wsumV (S ++ kidPairsV xF yF xF.len))) := hinv
          clear hinv hr6 hgr6 hm6
          go_wp2_with fail
          go_round
          case rel => exact ⟨_, HInv.out⟩
          case measure =>
            refine HMu.out _ _ _ HInv.out ?_
            rw [← HWs.out, wsum_appendV, wsum_appendV, wsum_kidsV, upTo_lenV]
            show wsumV S + xF.size < wsumV S + (xF.size + 1 + 0)
            omega
        · have hgd : ((n0 : Int) + 1 == 1) = false := by simp; omega
          have hinv : SameInvV w x y (.slice (some ⟨g, 0, none⟩) n cap) ws (wsumV S) := ⟨S, _, _, HL.out.old (p := (⟨xh, xa, xF, xc⟩, ⟨yh, ya, yF, yc⟩)) HHS.out hcase, good_oldV HG.out, by rw [HSn.out]; exact HRS.out, HMS.out, hbS, rfl⟩
          have HInv : Hid (SameInvV w x y (.slice (some ⟨g, 0, none⟩) n cap) ws (wsumV S)) := hinv
          clear hinv
          go_wp2_with fail
          go_round
          case rel => exact ⟨_, HInv.out⟩
          case measure =>
            refine HMu.out _ _ _ HInv.out ?_
            rw [← HWs.out, wsum_appendV]
            show wsumV S < wsumV S + (xF.size + 1 + 0)
            omega
end Go.Proofs.Ytofmimoklbkeoaa
/- Contracts over values: the laws' own measure. -/
namespace Go.Proofs.Ytofmimoklbkeoaa
open Go.RowKit
set_option maxHeartbeats 1000000 in
theorem szValueS_step (N : Nat) (H : ∀ (h : Hd) (a : Option Addr) (c : Nat) (F : Vo) (w : World) (l : Nat), F.size < N → F.In w a → F.len ≤ c → c ≤ maxLen → h.In w → l ≤ 1048576 →
      Calls Try.prog 7 #[valV h a F.len c, .int .i64 l] w fun e w' => e = .returned (.int .i64 (leftOf (h.t.size + F.wt + sWt h.ns) l)) ∧ Below w.heap.size w w') :
    ∀ (a : Option Addr) (c : Nat) (F : Vo) (w : World) (l : Nat), F.size ≤ N → F.In w a → F.len ≤ c → c ≤ maxLen → l ≤ 1048576 →
      Calls Try.prog 20 #[.slice a F.len c, .int .i64 l] w fun e w' => e = .returned (.int .i64 (leftOf F.wt l)) ∧ Below w.heap.size w w' := by
  intro a c F w l hF hin hl hc hl2
  unfold maxLen at hc
  have hlw := F.len_wt
  by_cases h0 : F.len ≤ l
  · have h0' : ¬ (l : Int) - (F.len : Int) < 0 := by omega
    go_enter Try.func20, Try.ntmps20
    go_wp2_with fail
    go_loopw [1, 5] (fun o i wr => ∃ (j d : Nat) (G : Vo), i = .int .i64 j ∧ o = .int .i64 d ∧ j + G.len = F.len ∧ d + F.wt + G.len = l + G.wt ∧ d ≤ l ∧ G.size ≤ F.size ∧ (G = .nil ∨ ∃ b o', a = some ⟨b, o', none⟩ ∧ G.From wr b (o' + j * 6)) ∧ Below w.heap.size w wr) (fun _ i _ => F.len - (intOf i).toNat)
    case atStart =>
      refine ⟨0, l - F.len, F, rfl, by congr 1; omega, by omega, by omega, by omega, Nat.le_refl _, ?_, Below.refl _ _⟩
      rcases hin with h | ⟨b, o', e1, e2⟩
      · exact .inl h
      · exact .inr ⟨b, o', e1, by simpa using e2⟩
    case round =>
      obtain ⟨j, d, G, rfl, rfl, hj, hs, hs1, hs2, hG, hb⟩ := hrel
      cases G with
      | nil =>
        have hj' : j = F.len := by simpa [Vo.len] using hj
        have hs' : d + F.wt = l := by simpa [Vo.len, Vo.wt] using hs
        have HL : Hid (leftOf F.wt l = (d : Int)) := by unfold Hid leftOf; rw [if_pos (by omega)]; congr 1; omega
        subst hj'
        clear hG hj hs hs' H
        go_wp2_with fail
        go_ret
        exact ⟨by rw [HL.out]; rfl, hb⟩
      | cons h a' c' kids next =>
        rcases hG with hG | ⟨b, o', rfl, ⟨h1, h2, h3, h4, h5, h6⟩, hk, ⟨hc1, hc2⟩, hh, hn⟩
        · cases hG
        · have hln : j + (next.len + 1) = F.len := hj
          have hlt : (j : Int) < (F.len : Int) := by omega
          have hjl : j < F.len := by omega
          have hsz : kids.size + 1 + next.size ≤ F.size := hs2
          have hwt : d + F.wt + (next.len + 1) = l + (h.t.size + kids.wt + sWt h.ns + 1 + next.wt) := hs
          have hnw := next.len_wt
          clear hj hs hin hs2
          go_wp2_with fail
          refine (H h a' c' kids wr d (by omega) hk hc1 hc2 hh (by omega)).mono ?_
          rintro e w1 ⟨rfl, hb1⟩
          have hn1 := Vo.from_grow hb1 next b _ hn
          have hb2 := hb.trans (hb1.mono hb.size)
          clear h1 h2 h3 h4 h5 h6 hk hn hb1 hb H hh
          by_cases hd : h.t.size + kids.wt + sWt h.ns ≤ d
          · have HL : Hid (leftOf (h.t.size + kids.wt + sWt h.ns) d = ((d - (h.t.size + kids.wt + sWt h.ns) : Nat) : Int)) := by unfold Hid leftOf; rw [if_pos hd]
            rw [HL.out]
            obtain ⟨d', hd'⟩ : ∃ d', d' = d - (h.t.size + kids.wt + sWt h.ns) := ⟨_, rfl⟩
            rw [← hd']
            have hd2 : d' + (h.t.size + kids.wt + sWt h.ns) = d := by omega
            clear hd' HL hd
            have hd0 : ¬ (d' : Int) < 0 := by omega
            go_wp2_with fail
            go_round
            case rel =>
              refine ⟨j + 1, d', next, by go_num, rfl, by omega, by omega, by omega, by omega, .inr ⟨b, o', rfl, ?_⟩, hb2⟩
              rw [show o' + (j + 1) * 6 = o' + j * 6 + 6 by omega]; exact hn1
            case measure => simp [intOf]; omega
          · have HL : Hid (leftOf (h.t.size + kids.wt + sWt h.ns) d = -1) := by unfold Hid leftOf; rw [if_neg hd]
            have HR : Hid (leftOf F.wt l = -1) := by unfold Hid leftOf; rw [if_neg (by omega)]
            rw [HL.out]
            clear HL hd
            go_wp2_with fail
            go_ret
            exact ⟨by rw [HR.out]; rfl, hb2⟩
  · have h0' : (l : Int) - (F.len : Int) < 0 := by omega
    have HL : Hid (leftOf F.wt l = -1) := by unfold Hid leftOf; rw [if_neg (by omega)]
    rw [HL.out]
    clear H
    go_enter Try.func20, Try.ntmps20
    go_wp2_with fail
    go_ret
    exact ⟨rfl, Below.refl _ _⟩
theorem left_neg {n l : Nat} (h : ¬ n ≤ l) : leftOf n l = -1 := by unfold leftOf; rw [if_neg h]
theorem left_pos {n l : Nat} (h : n ≤ l) : leftOf n l = ((l - n : Nat) : Int) := by unfold leftOf; rw [if_pos h]
set_option maxHeartbeats 1000000 in
theorem szValue_step (N : Nat) (H : ∀ (a : Option Addr) (c : Nat) (F : Vo) (w : World) (l : Nat), F.size ≤ N → F.In w a → F.len ≤ c → c ≤ maxLen → l ≤ 1048576 →
      Calls Try.prog 20 #[.slice a F.len c, .int .i64 l] w fun e w' => e = .returned (.int .i64 (leftOf F.wt l)) ∧ Below w.heap.size w w') :
    ∀ (h : Hd) (a : Option Addr) (c : Nat) (F : Vo) (w : World) (l : Nat), F.size ≤ N → F.In w a → F.len ≤ c → c ≤ maxLen → h.In w → l ≤ 1048576 →
      Calls Try.prog 7 #[valV h a F.len c, .int .i64 l] w fun e w' => e = .returned (.int .i64 (leftOf (h.t.size + F.wt + sWt h.ns) l)) ∧ Below w.heap.size w w' := by
  intro h a c F w l hF hin hl hc hh hl2
  have hcc := hc
  have ht := hh.2.2
  unfold maxLen at hc ht
  by_cases h0 : h.t.size ≤ l
  · have h0' : ¬ (l : Int) - (h.t.size : Int) < 0 := by omega
    go_enter Try.func7, Try.ntmps7
    go_wp2_with fail
    rw [show (l : Int) - (h.t.size : Int) = ((l - h.t.size : Nat) : Int) by omega]
    have hb0 : Below w.heap.size w (w.alloc (.cells #[.int .i64 h.k, .int .i64 h.m, .int .i64 h.e, .string h.t, .slice a F.len c, .slice h.na h.ns.length h.nc] 27)) := (Below.refl _ w).alloc (Nat.le_refl _) _
    have hr0 := Row.new w [.int .i64 h.k, .int .i64 h.m, .int .i64 h.e, .string h.t, .slice a F.len c, .slice h.na h.ns.length h.nc] 27
    refine (H a c F _ (l - h.t.size) hF (hin.grow hb0) hl hcc (by omega)).mono ?_
    rintro e w1 ⟨rfl, hb1⟩
    have hb2 : Below w.heap.size w w1 := hb0.trans (hb1.mono (by simp))
    have x5 := (hr0.below hb1 (by simp) 5 _ rfl).1
    have hh1 := hh.grow hb2
    clear hb0 hb1 H hin hr0 hh
    by_cases hd : h.t.size + F.wt ≤ l
    · have HL : Hid (leftOf F.wt (l - h.t.size) = ((l - (h.t.size + F.wt) : Nat) : Int)) := by unfold Hid; rw [left_pos (by omega)]; congr 1; omega
      rw [HL.out]
      obtain ⟨d', hd'⟩ : ∃ d', d' = l - (h.t.size + F.wt) := ⟨_, rfl⟩
      rw [← hd']
      have hd0 : ¬ (d' : Int) < 0 := by omega
      have hd1 : d' ≤ 1048576 := by omega
      have HD : Hid (d' + (h.t.size + F.wt) = l) := by unfold Hid; omega
      clear HL hd' hd
      go_wp2_with fail
      refine (szStringS_any h.ns h.na h.nc w1 d' hh1.1 hh1.2.1.1 hh1.2.1.2 hd1).mono ?_
      rintro e w2 ⟨rfl, hb3⟩
      have hb4 := hb2.trans (hb3.mono hb2.size)
      clear hb3 hb2 x5 hh1
      by_cases hd3 : sWt h.ns ≤ d'
      · have HL : Hid (leftOf (sWt h.ns) d' = ((d' - sWt h.ns : Nat) : Int)) := left_pos hd3
        have HR : Hid (leftOf (h.t.size + F.wt + sWt h.ns) l = ((d' - sWt h.ns : Nat) : Int)) := by unfold Hid; have := HD.out; rw [left_pos (by omega)]; congr 1; omega
        rw [HL.out]
        obtain ⟨d2, hd2⟩ : ∃ d2, d2 = d' - sWt h.ns := ⟨_, rfl⟩
        rw [← hd2] at HR ⊢
        have hd20 : ¬ (d2 : Int) < 0 := by omega
        clear HL hd3 hd2
        go_wp2_with fail
        go_ret
        exact ⟨by rw [HR.out]; rfl, hb4⟩
      · have HL : Hid (leftOf (sWt h.ns) d' = -1) := left_neg hd3
        have HR : Hid (leftOf (h.t.size + F.wt + sWt h.ns) l = -1) := left_neg (by have := HD.out; omega)
        rw [HL.out]
        clear HL hd3
        go_wp2_with fail
        go_ret
        exact ⟨by rw [HR.out]; rfl, hb4⟩
    · have HL : Hid (leftOf F.wt (l - h.t.size) = -1) := left_neg (by omega)
      have HR : Hid (leftOf (h.t.size + F.wt + sWt h.ns) l = -1) := left_neg (by omega)
      rw [HL.out]
      clear HL hd
      go_wp2_with fail
      go_ret
      exact ⟨by rw [HR.out]; rfl, hb2⟩
  · have h0' : (l : Int) - (h.t.size : Int) < 0 := by omega
    have HL : Hid (leftOf (h.t.size + F.wt + sWt h.ns) l = -1) := left_neg (by omega)
    rw [HL.out]
    clear H
    go_enter Try.func7, Try.ntmps7
    go_wp2_with fail
    go_ret
    exact ⟨rfl, (Below.refl _ _).alloc (Nat.le_refl _) _⟩
theorem szValue_all (N : Nat) : ∀ (h : Hd) (a : Option Addr) (c : Nat) (F : Vo) (w : World) (l : Nat), F.size < N → F.In w a → F.len ≤ c → c ≤ maxLen → h.In w → l ≤ 1048576 →
      Calls Try.prog 7 #[valV h a F.len c, .int .i64 l] w fun e w' => e = .returned (.int .i64 (leftOf (h.t.size + F.wt + sWt h.ns) l)) ∧ Below w.heap.size w w' := by
  induction N with
  | zero => intro h a c F w l hF; omega
  | succ N ih => exact fun h a c F w l hF => szValue_step N (szValueS_step N ih) h a c F w l (by omega)
/-- the laws' measure of a value -/
theorem szValue_any (h : Hd) (a : Option Addr) (c : Nat) (F : Vo) (w : World) (l : Nat) (h1 : F.In w a) (h2 : F.len ≤ c) (h3 : c ≤ maxLen) (h4 : h.In w) (h5 : l ≤ 1048576) :
      Calls Try.prog 7 #[valV h a F.len c, .int .i64 l] w fun e w' => e = .returned (.int .i64 (leftOf (h.t.size + F.wt + sWt h.ns) l)) ∧ Below w.heap.size w w' :=
  szValue_all (F.size + 1) h a c F w l (by omega) h1 h2 h3 h4 h5
end Go.Proofs.Ytofmimoklbkeoaa
/- Two values that are the same: ValueSame of the program, and copies that can be held against each other. -/
namespace Go.Proofs.Ytofmimoklbkeoaa
open Go.RowKit
theorem Vo.Cl.below {w w' : World} (hb : Below w.heap.size w w') : ∀ {F : Vo}, F.Cl w → F.Cl w' := by
  intro F
  induction F with
  | nil => intro _; trivial
  | cons h a c kids next ih1 ih2 => rintro ⟨h1, h2, h3⟩; exact ⟨h1.below hb, ih1 h2, ih2 h3⟩
theorem ItV.Good.below {w w' : World} {x : ItV} (h : x.Good w) (hb : Below w.heap.size w w') : x.Good w' := ⟨h.1.below hb, h.2.below hb⟩
/-- a copy of a value, in new memory that is not frozen -/
def CopiedV (w' : World) (h : Hd) (F : Vo) (r : Ending) : Prop :=
  ∃ (nb n2 : Nat) (F' : Vo), r = .returned (valV (h.to n2) (some ⟨nb, 0, none⟩) F'.len F'.len) ∧ F'.alike F ∧ F'.From w' nb 0 ∧ (h.to n2).In w' ∧ ItV.Good w' ⟨h.to n2, some ⟨nb, 0, none⟩, F', F'.len⟩
theorem toValue_any (h : Hd) (a : Option Addr) (c : Nat) (F : Vo) (w : World) (h0 : F.wt ≤ 1048576) (h0n : h.ns.length ≤ 1048576) (h1 : F.In w a) (h2 : F.len ≤ c) (h3 : c ≤ maxLen) (h4 : h.In w) :
      Calls Try.prog 9 #[valV h a F.len c] w fun r w' => CopiedV w' h F r ∧ Below w.heap.size w w' := by
  have hsw := F.size_wt
  refine (toValue_all (F.size + 1) h a c F w (by omega) (by omega) (F.few_wt 1100000 (by omega)) (by omega) h1 h2 h3 h4).mono ?_
  rintro r w' ⟨⟨nb, n2, F', hr, ⟨hn, hn2⟩, ha, hk, hF, hS, hc⟩, hb⟩
  exact ⟨⟨nb, n2, F', hr, ha, hF, ⟨.inr ⟨n2, 0, rfl, hS⟩, ⟨Nat.le_refl _, Nat.le_trans h4.2.1.1 h4.2.1.2⟩, h4.2.2⟩, plOk_ofV hc hn hF, Vo.cl_of hc F' _ _ hF hk⟩, hb⟩
/-- copies are the same just if what they were made of is -/
theorem same2_copyV {h g : Hd} {m n : Nat} {a a2 b b2 : Option Addr} {F G F1 G1 : Vo} {c c2 d d2 : Nat} (h1 : F1.alike F) (h2 : G1.alike G) :
    same2V (⟨h.to m, a, F1, c⟩, ⟨g.to n, a2, G1, c2⟩) ↔ same2V (⟨h, b, F, d⟩, ⟨g, b2, G, d2⟩) := by
  constructor
  · rintro ⟨hh, h3⟩; exact ⟨hh, Vo.alike_trans (Vo.alike_sym h1) (Vo.alike_trans h3 h2)⟩
  · rintro ⟨hh, h3⟩; exact ⟨hh, Vo.alike_trans h1 (Vo.alike_trans h3 (Vo.alike_sym h2))⟩
set_option maxRecDepth 100000 in
set_option maxHeartbeats 1000000 in
theorem iValueSame_any (x y : ItV) (w : World) (hx : x.F.In w x.a) (hy : y.F.In w y.a) (hs : x.F.size ≤ 1100000) (hgx : x.Good w) (hgy : y.Good w) (hhx : x.h.In w) (hhy : y.h.In w) :
    Calls Try.prog 70 #[valV x.h x.a x.F.len x.c, valV y.h y.a y.F.len y.c] w fun r w' => SaysT (same2V (x, y)) r ∧ Below w.heap.size w w' := by
  have hB0 := ((Below.refl _ w).alloc (Nat.le_refl _) (.cells #[.int .i64 x.h.k, .int .i64 x.h.m, .int .i64 x.h.e, .string x.h.t, .slice x.a x.F.len x.c, .slice x.h.na x.h.ns.length x.h.nc] 33)).alloc (by simp) (.cells #[.int .i64 y.h.k, .int .i64 y.h.m, .int .i64 y.h.e, .string y.h.t, .slice y.a y.F.len y.c, .slice y.h.na y.h.ns.length y.h.nc] 33)
  go_enter Try.func70, Try.ntmps70
  go_wp2_with fail
  refine (sameAllV_any x y _ (hx.grow hB0) (hy.grow hB0) hs (hgx.below hB0) (hgy.below hB0) (hhx.grow hB0) (hhy.grow hB0)).mono ?_
  rintro r w1 ⟨⟨q, rfl, hq⟩, hb1⟩
  have HQ : Hid (q = true ↔ same2V (x, y)) := hq
  clear hq
  have hB1 := hB0.trans (hb1.mono hB0.size)
  go_wp2_with fail
  go_ret
  exact ⟨⟨q, rfl, HQ.out⟩, hB1⟩
/-- a value in its box -/
abbrev BxV (b : Nat) (h : Hd) (s : Value) (w : World) : Prop := w.cell? ⟨b, 0, none⟩ = some (.int .i64 h.k) ∧ w.cell? ⟨b, 1, none⟩ = some (.int .i64 h.m) ∧ w.cell? ⟨b, 2, none⟩ = some (.int .i64 h.e) ∧ w.cell? ⟨b, 3, none⟩ = some (.string h.t) ∧ w.cell? ⟨b, 4, none⟩ = some s ∧ w.cell? ⟨b, 5, none⟩ = some (.slice h.na h.ns.length h.nc)
theorem BxV.below {b : Nat} {h : Hd} {s : Value} {w w' : World} (x : BxV b h s w) (hb : Below w.heap.size w w') : BxV b h s w' := by
  have hl : b < w.heap.size := World.block_lt_of_cell? _ _ x.1
  obtain ⟨h0, h1, h2, h3, h4, h5⟩ := x
  exact ⟨(hb.cell (p := ⟨b, 0, none⟩) hl).trans h0, (hb.cell (p := ⟨b, 1, none⟩) hl).trans h1, (hb.cell (p := ⟨b, 2, none⟩) hl).trans h2, (hb.cell (p := ⟨b, 3, none⟩) hl).trans h3, (hb.cell (p := ⟨b, 4, none⟩) hl).trans h4, (hb.cell (p := ⟨b, 5, none⟩) hl).trans h5⟩
theorem BxV.new (w : World) (h : Hd) (s : Value) (T : TypeId) : BxV w.heap.size h s (w.alloc (.cells #[.int .i64 h.k, .int .i64 h.m, .int .i64 h.e, .string h.t, s, .slice h.na h.ns.length h.nc] T)) := by
  refine ⟨?_, ?_, ?_, ?_, ?_, ?_⟩ <;> simp
end Go.Proofs.Ytofmimoklbkeoaa
