/- Two values that are the same, by the program: the region that makes the pair of places of two lists. -/
import Derived.Test.YtohldacplapjkaaWh
import Derived.Test.YtohldacplapjkaaSi
namespace Go.Proofs.Ytohldacplapjkaa
open Go.RowKit
theorem len_orV {w : World} {F : Vo} {a : Option Addr} (h : F.In w a) : F.len = 0 ∨ ∃ b o, a = some ⟨b, o, none⟩ := by
  rcases h with rfl | ⟨b, o, e, _⟩
  · exact .inl rfl
  · exact .inr ⟨b, o, e⟩
/-- a pair in its box -/
abbrev TwoV (pb : Nat) (x : Hd) (sx : Value) (y : Hd) (sy : Value) (w : World) : Prop :=
  (w.cell? ⟨pb, 0, none⟩ = some (.int .i64 x.k) ∧ w.cell? ⟨pb, 1, none⟩ = some (.int .i64 x.m) ∧ w.cell? ⟨pb, 2, none⟩ = some (.int .i64 x.e) ∧ w.cell? ⟨pb, 3, none⟩ = some (.string x.t) ∧ w.cell? ⟨pb, 4, none⟩ = some sx ∧ w.cell? ⟨pb, 5, none⟩ = some (.slice x.na x.ns.length x.nc)) ∧
  (w.cell? ⟨pb, 6, none⟩ = some (.int .i64 y.k) ∧ w.cell? ⟨pb, 7, none⟩ = some (.int .i64 y.m) ∧ w.cell? ⟨pb, 8, none⟩ = some (.int .i64 y.e) ∧ w.cell? ⟨pb, 9, none⟩ = some (.string y.t) ∧ w.cell? ⟨pb, 10, none⟩ = some sy ∧ w.cell? ⟨pb, 11, none⟩ = some (.slice y.na y.ns.length y.nc))
theorem TwoV.same {w w' : World} {pb : Nat} {x y : Hd} {sx sy : Value} (h : TwoV pb x sx y sy w) (hb : w'.heap[pb]? = w.heap[pb]?) : TwoV pb x sx y sy w' := by
  have c : ∀ o, w'.cell? ⟨pb, o, none⟩ = w.cell? ⟨pb, o, none⟩ := fun o => World.cell?_of_block (a := ⟨pb, o, none⟩) hb
  obtain ⟨⟨a0, a1, a2, a3, a4, a5⟩, a6, a7, a8, a9, a10, a11⟩ := h
  exact ⟨⟨(c 0).trans a0, (c 1).trans a1, (c 2).trans a2, (c 3).trans a3, (c 4).trans a4, (c 5).trans a5⟩, (c 6).trans a6, (c 7).trans a7, (c 8).trans a8, (c 9).trans a9, (c 10).trans a10, (c 11).trans a11⟩
theorem TwoV.lt {w : World} {pb : Nat} {x y : Hd} {sx sy : Value} (h : TwoV pb x sx y sy w) : pb < w.heap.size := World.block_lt_of_cell? _ _ h.1.1
/-- a pair in its box, and nothing old changed -/
abbrev HeldB (W : World) (pb : Nat) (x : Hd) (sx : Value) (y : Hd) (sy : Value) (w : World) : Prop :=
  TwoV pb x sx y sy w ∧ Below W.heap.size W w
set_option maxRecDepth 100000 in
set_option maxHeartbeats 2000000 in
theorem sa8V {Q : Exit → Act → World → Prop} {t0 t1 t2 t3 t4 t5 t6 t8 t9 t10 t11 t12 t13 t14 t15 t16 t17 t18 t19 t20 t21 t22 t23 t24 t25 t26 t27 t28 t29 t30 t31 t32 t33 t34 t35 t36 t37 t38 t39 t40 t41 t42 t43 t44 t45 t46 t47 t48 t49 t50 t51 t52 t53 t54 t55 t56 t57 t58 t59 t60 t61 t62 t63 t64 t65 t66 : Value} {W : World} {pb : Nat} {xh : Hd} {xa : Option Addr} {xn xc : Nat} {yh : Hd} {ya : Option Addr} {yn yc : Nat}
    (hT : TwoV pb xh (.slice xa xn xc) yh (.slice ya yn yc) W) (hxa : xn = 0 ∨ ∃ b o, xa = some ⟨b, o, none⟩) (hya : yn = 0 ∨ ∃ b o, ya = some ⟨b, o, none⟩) (hxl : xn ≤ 2000000) (hyl : yn ≤ 2000000)
    (hp : ∀ p d v a w, Q (.panic p) (Act.put a d v) w → Q (.panic p) a w) (h : ∀ WE B v35 v36 v37 v38 v39 v40 v41 v42 v43 v44 v45, Below W.heap.size W WE → W.heap.size ≤ B → FourC B (.pointer (plOf xa xn).1) (.int .i64 (plOf xa xn).2) (.pointer (plOf ya yn).1) (.int .i64 (plOf ya yn).2) WE → Q .normal { tmps := (t0 :: t1 :: t2 :: t3 :: t4 :: t5 :: t6 :: .pointer (some ⟨pb, 0, none⟩) :: .pointer (some ⟨B, 0, none⟩) :: t9 :: t10 :: t11 :: t12 :: t13 :: t14 :: t15 :: t16 :: t17 :: t18 :: t19 :: t20 :: t21 :: t22 :: t23 :: t24 :: t25 :: t26 :: t27 :: t28 :: t29 :: t30 :: t31 :: t32 :: t33 :: t34 :: v35 :: v36 :: v37 :: v38 :: v39 :: v40 :: v41 :: v42 :: v43 :: v44 :: v45 :: t46 :: t47 :: t48 :: t49 :: t50 :: t51 :: t52 :: t53 :: t54 :: t55 :: t56 :: t57 :: t58 :: t59 :: t60 :: t61 :: t62 :: t63 :: t64 :: t65 :: t66 :: []).toArray, defers := [] } WE) :
    Code.wp Try.prog (Code.region 8 #[{ dst := some 35, op := Op.fieldAddr 62 (Operand.tmp 7) 0, type := 0, pos := "l3_tree.go:383", after := #[], guard := none }, { dst := some 36, op := Op.load 33 (Operand.tmp 35), type := 33, pos := "l3_tree.go:383", after := #[{ on := 0, ground := Ground.data }], guard := none }, { dst := some 37, op := Op.makeInterface 33 (Operand.tmp 36), type := 20, pos := "l3_tree.go:383", after := #[{ on := 1, ground := Ground.data }], guard := none }, { dst := some 38, op := Op.call { callee := Callee.invoke (Operand.tmp 37) "loop.example/chancery/impl.below", args := #[], argTypes := #[] }, type := 31, pos := "l3_tree.go:383", after := #[{ on := 2, ground := Ground.data }], guard := none }, { dst := some 39, op := Op.call { callee := Callee.value (Operand.func 34), args := #[Operand.tmp 38], argTypes := #[31] }, type := 66, pos := "l3_tree.go:383", after := #[{ on := 3, ground := Ground.data }, { on := 3, ground := Ground.chain }], guard := none }, { dst := some 40, op := Op.fieldAddr 62 (Operand.tmp 7) 1, type := 0, pos := "l3_tree.go:383", after := #[], guard := none }, { dst := some 41, op := Op.load 33 (Operand.tmp 40), type := 33, pos := "l3_tree.go:383", after := #[{ on := 5, ground := Ground.data }], guard := none }, { dst := some 42, op := Op.makeInterface 33 (Operand.tmp 41), type := 20, pos := "l3_tree.go:383", after := #[{ on := 6, ground := Ground.data }], guard := none }, { dst := some 43, op := Op.call { callee := Callee.invoke (Operand.tmp 42) "loop.example/chancery/impl.below", args := #[], argTypes := #[] }, type := 31, pos := "l3_tree.go:383", after := #[{ on := 7, ground := Ground.data }, { on := 4, ground := Ground.chain }], guard := none }, { dst := some 44, op := Op.call { callee := Callee.value (Operand.func 34), args := #[Operand.tmp 43], argTypes := #[31] }, type := 66, pos := "l3_tree.go:383", after := #[{ on := 8, ground := Ground.data }, { on := 8, ground := Ground.chain }], guard := none }, { dst := some 45, op := Op.build 70 #[(0, Operand.tmp 39), (1, Operand.tmp 44)], type := 70, pos := "l3_tree.go:383", after := #[{ on := 4, ground := Ground.data }, { on := 9, ground := Ground.data }], guard := none }, { dst := some 8, op := Op.alloc 70, type := 0, pos := "l3_tree.go:383", after := #[], guard := none }, { dst := none, op := Op.store 70 (Operand.tmp 8) (Operand.tmp 45), type := 0, pos := "l3_tree.go:383", after := #[{ on := 11, ground := Ground.data }, { on := 10, ground := Ground.data }, { on := 9, ground := Ground.chain }, { on := 0, ground := Ground.phase }, { on := 1, ground := Ground.phase }, { on := 2, ground := Ground.phase }, { on := 3, ground := Ground.phase }, { on := 4, ground := Ground.phase }, { on := 5, ground := Ground.phase }, { on := 6, ground := Ground.phase }, { on := 7, ground := Ground.phase }, { on := 8, ground := Ground.phase }, { on := 9, ground := Ground.phase }, { on := 10, ground := Ground.phase }, { on := 11, ground := Ground.phase }], guard := none }] true) Q { tmps := (t0 :: t1 :: t2 :: t3 :: t4 :: t5 :: t6 :: .pointer (some ⟨pb, 0, none⟩) :: t8 :: t9 :: t10 :: t11 :: t12 :: t13 :: t14 :: t15 :: t16 :: t17 :: t18 :: t19 :: t20 :: t21 :: t22 :: t23 :: t24 :: t25 :: t26 :: t27 :: t28 :: t29 :: t30 :: t31 :: t32 :: t33 :: t34 :: t35 :: t36 :: t37 :: t38 :: t39 :: t40 :: t41 :: t42 :: t43 :: t44 :: t45 :: t46 :: t47 :: t48 :: t49 :: t50 :: t51 :: t52 :: t53 :: t54 :: t55 :: t56 :: t57 :: t58 :: t59 :: t60 :: t61 :: t62 :: t63 :: t64 :: t65 :: t66 :: []).toArray, defers := [] } W := by
  have hmeth := belowV_method
  have hpl := hT.lt
  have HSof : Hid (∀ w', Below W.heap.size W w' → HeldB W pb xh (.slice xa xn xc) yh (.slice ya yn yc) w') := fun w' h => ⟨hT.same (h.block _ hpl), h⟩
  have hS0 := HSof.out _ ((Below.refl _ W).drew)
  clear hT
  refine wp_region_held_drew (S := fun w' => HeldB W pb xh (.slice xa xn xc) yh (.slice ya yn yc) w') (by kernel_rfl) hS0 (fun hHeld => ?_)
  refine wpAnyH_take (i := 0) (v := .pointer (some ⟨pb, 0, none⟩)) rfl (by kernel_rfl) (by kernel_rfl) (by kernel_rfl) (fun _ _ _ h => hp _ _ _ _ _ h) (Or.inl ⟨by rfl, ?_⟩) (by assumption) ?_
  · intro w hSw
    (try dsimp only at hSw)
    go_simp
  (try simp only [Act.put, List.getElem_toArray, List.getElem_cons_zero, List.setIfInBounds_toArray, List.set_cons_zero, List.set_cons_succ])
  refine wpAnyH_take (i := 1) (v := valV xh xa xn xc) rfl (by kernel_rfl) (by kernel_rfl) (by kernel_rfl) (fun _ _ _ h => hp _ _ _ _ _ h) (Or.inl ⟨by rfl, ?_⟩) (by assumption) ?_
  · intro w hSw
    (try dsimp only at hSw)
    go_simp
  (try simp only [Act.put, List.getElem_toArray, List.getElem_cons_zero, List.getElem_cons_succ, List.setIfInBounds_toArray, List.set_cons_zero, List.set_cons_succ])
  refine wpAnyH_take (i := 2) (v := .iface 33 (valV xh xa xn xc)) rfl (by kernel_rfl) (by kernel_rfl) (by kernel_rfl) (fun _ _ _ h => hp _ _ _ _ _ h) (Or.inl ⟨by rfl, ?_⟩) (by assumption) ?_
  · intro w hSw
    (try dsimp only at hSw)
    go_simp
  (try simp only [Act.put, List.getElem_toArray, List.getElem_cons_zero, List.getElem_cons_succ, List.setIfInBounds_toArray, List.set_cons_zero, List.set_cons_succ])
  refine wpAnyH_take (i := 5) (v := .pointer (some ⟨pb, 6, none⟩)) rfl (by kernel_rfl) (by kernel_rfl) (by kernel_rfl) (fun _ _ _ h => hp _ _ _ _ _ h) (Or.inl ⟨by rfl, ?_⟩) (by assumption) ?_
  · intro w hSw
    (try dsimp only at hSw)
    go_simp
  (try simp only [Act.put, List.getElem_toArray, List.getElem_cons_zero, List.getElem_cons_succ, List.setIfInBounds_toArray, List.set_cons_zero, List.set_cons_succ])
  refine wpAnyH_take (i := 6) (v := valV yh ya yn yc) rfl (by kernel_rfl) (by kernel_rfl) (by kernel_rfl) (fun _ _ _ h => hp _ _ _ _ _ h) (Or.inl ⟨by rfl, ?_⟩) (by assumption) ?_
  · intro w hSw
    (try dsimp only at hSw)
    go_simp
  (try simp only [Act.put, List.getElem_toArray, List.getElem_cons_zero, List.getElem_cons_succ, List.setIfInBounds_toArray, List.set_cons_zero, List.set_cons_succ])
  refine wpAnyH_take (i := 7) (v := .iface 33 (valV yh ya yn yc)) rfl (by kernel_rfl) (by kernel_rfl) (by kernel_rfl) (fun _ _ _ h => hp _ _ _ _ _ h) (Or.inl ⟨by rfl, ?_⟩) (by assumption) ?_
  · intro w hSw
    (try dsimp only at hSw)
    go_simp
  (try simp only [Act.put, List.getElem_toArray, List.getElem_cons_zero, List.getElem_cons_succ, List.setIfInBounds_toArray, List.set_cons_zero, List.set_cons_succ])
  have hBW := (Below.refl W.heap.size W).drew
  refine wpAnyH_ready (rs := [3, 11]) (by kernel_rfl) (by simp) ?_
  refine AllReadyH.cons rfl (fun K hK => ?_) (AllReadyH.cons rfl (fun K hK => ?_) AllReadyH.nil)
  · skip
    go_simp
    refine (belowV_any xh xa xn xc _).mono ?_
    rintro r wn0 ⟨rfl, hbn⟩
    have hBn := hBW.trans (hbn.mono hBW.size)
    go_wp2_with fail
    refine hK.out _ _ (HSof.out _ hBn) (fun hHeld => ?_)
    clear hK K hBW hbn
    have hBW := hBn
    clear hBn
    refine wpAnyH_ready (rs := [4, 11]) (by kernel_rfl) (by simp) ?_
    refine AllReadyH.cons rfl (fun K hK => ?_) (AllReadyH.cons rfl (fun K hK => ?_) AllReadyH.nil)
    · skip
      go_simp
      refine (placeOfV_any xa xn xc _ hxa hxl).mono ?_
      rintro r wn1 ⟨rfl, hbn⟩
      have hBn := hBW.trans (hbn.mono hBW.size)
      go_wp2_with fail
      refine hK.out _ _ (HSof.out _ hBn) (fun hHeld => ?_)
      clear hK K hBW hbn
      have hBW := hBn
      clear hBn
      refine wpAnyH_ready (rs := [8, 11]) (by kernel_rfl) (by simp) ?_
      refine AllReadyH.cons rfl (fun K hK => ?_) (AllReadyH.cons rfl (fun K hK => ?_) AllReadyH.nil)
      · skip
        go_simp
        refine (belowV_any yh ya yn yc _).mono ?_
        rintro r wn2 ⟨rfl, hbn⟩
        have hBn := hBW.trans (hbn.mono hBW.size)
        go_wp2_with fail
        refine hK.out _ _ (HSof.out _ hBn) (fun hHeld => ?_)
        clear hK K hBW hbn
        have hBW := hBn
        clear hBn
        refine wpAnyH_ready (rs := [9, 11]) (by kernel_rfl) (by simp) ?_
        refine AllReadyH.cons rfl (fun K hK => ?_) (AllReadyH.cons rfl (fun K hK => ?_) AllReadyH.nil)
        · skip
          go_simp
          refine (placeOfV_any ya yn yc _ hya hyl).mono ?_
          rintro r wn3 ⟨rfl, hbn⟩
          have hBn := hBW.trans (hbn.mono hBW.size)
          go_wp2_with fail
          refine hK.out _ _ (HSof.out _ hBn) (fun hHeld => ?_)
          clear hK K hBW hbn
          have hBW := hBn
          clear hBn
          refine wpAnyH_take (i := 10) (v := pl2V (plOf xa xn, plOf ya yn)) rfl (by kernel_rfl) (by kernel_rfl) (by kernel_rfl) (fun _ _ _ h => hp _ _ _ _ _ h) (Or.inl ⟨by rfl, ?_⟩) (by assumption) ?_
          · intro w hSw
            (try dsimp only at hSw)
            unfold plV pl2V
            go_simp
          (try simp only [Act.put, List.getElem_toArray, List.getElem_cons_zero, List.getElem_cons_succ, List.setIfInBounds_toArray, List.set_cons_zero, List.set_cons_succ])
          refine wpAnyH_ready (rs := [11]) (by kernel_rfl) (by simp) ?_
          refine AllReadyH.cons rfl (fun K hK => ?_) AllReadyH.nil
          go_simp
          have hBn : Below W.heap.size W (wn3.alloc (.cells #[.pointer none, .int .i64 0, .pointer none, .int .i64 0] 70)) := hBW.alloc hBW.size _
          have hfour : Four (wn3.alloc (.cells #[.pointer none, .int .i64 0, .pointer none, .int .i64 0] 70)) wn3.heap.size (.pointer none) (.int .i64 0) (.pointer none) (.int .i64 0) := Four.new wn3 _ _ _ _ _
          refine hK.out _ _ (HSof.out _ hBn) (fun hHeld => ?_)
          have hBsz := hBW.size
          clear hK K hBW
          have hBW := hBn
          clear hBn
          obtain ⟨B, hBd⟩ : ∃ B, wn3.heap.size = B := ⟨_, rfl⟩
          have hBge : W.heap.size ≤ B := by omega
          rw [hBd] at hfour ⊢
          clear hBd
          generalize (wn3.alloc (.cells #[.pointer none, .int .i64 0, .pointer none, .int .i64 0] 70)) = WA at *
          obtain ⟨⟨f0, f1, f2, f3⟩, g0, g1, g2, g3⟩ := hfour
          refine wpAnyH_ready (rs := [12]) (by kernel_rfl) (by simp) ?_
          refine AllReadyH.cons rfl (fun K hK => ?_) AllReadyH.nil
          unfold pl2V
          go_simp
          have hWE : Below W.heap.size W ((((WA.setCell ⟨B, 0, none⟩ (.pointer (plOf xa xn).1)).setCell ⟨B, 1, none⟩ (.int .i64 (plOf xa xn).2)).setCell ⟨B, 2, none⟩ (.pointer (plOf ya yn).1)).setCell ⟨B, 3, none⟩ (.int .i64 (plOf ya yn).2)) := (((hBW.setCell (p := ⟨B, 0, none⟩) hBge _).setCell (p := ⟨B, 1, none⟩) hBge _).setCell (p := ⟨B, 2, none⟩) hBge _).setCell (p := ⟨B, 3, none⟩) hBge _
          have e0 : ((((WA.setCell ⟨B, 0, none⟩ (.pointer (plOf xa xn).1)).setCell ⟨B, 1, none⟩ (.int .i64 (plOf xa xn).2)).setCell ⟨B, 2, none⟩ (.pointer (plOf ya yn).1)).setCell ⟨B, 3, none⟩ (.int .i64 (plOf ya yn).2)).cell? ⟨B, 0, none⟩ = some (.pointer (plOf xa xn).1) := by rw [set_far (by omega), set_far (by omega), set_far (by omega)]; exact set_near ⟨_, f0⟩
          have e1 : ((((WA.setCell ⟨B, 0, none⟩ (.pointer (plOf xa xn).1)).setCell ⟨B, 1, none⟩ (.int .i64 (plOf xa xn).2)).setCell ⟨B, 2, none⟩ (.pointer (plOf ya yn).1)).setCell ⟨B, 3, none⟩ (.int .i64 (plOf ya yn).2)).cell? ⟨B, 1, none⟩ = some (.int .i64 (plOf xa xn).2) := by rw [set_far (by omega), set_far (by omega)]; exact set_near (set_is ⟨_, f1⟩)
          have e2 : ((((WA.setCell ⟨B, 0, none⟩ (.pointer (plOf xa xn).1)).setCell ⟨B, 1, none⟩ (.int .i64 (plOf xa xn).2)).setCell ⟨B, 2, none⟩ (.pointer (plOf ya yn).1)).setCell ⟨B, 3, none⟩ (.int .i64 (plOf ya yn).2)).cell? ⟨B, 2, none⟩ = some (.pointer (plOf ya yn).1) := by rw [set_far (by omega)]; exact set_near (set_is (set_is ⟨_, f2⟩))
          have e3 : ((((WA.setCell ⟨B, 0, none⟩ (.pointer (plOf xa xn).1)).setCell ⟨B, 1, none⟩ (.int .i64 (plOf xa xn).2)).setCell ⟨B, 2, none⟩ (.pointer (plOf ya yn).1)).setCell ⟨B, 3, none⟩ (.int .i64 (plOf ya yn).2)).cell? ⟨B, 3, none⟩ = some (.int .i64 (plOf ya yn).2) := set_near (set_is (set_is (set_is ⟨_, f3⟩)))
          generalize (((WA.setCell ⟨B, 0, none⟩ (.pointer (plOf xa xn).1)).setCell ⟨B, 1, none⟩ (.int .i64 (plOf xa xn).2)).setCell ⟨B, 2, none⟩ (.pointer (plOf ya yn).1)).setCell ⟨B, 3, none⟩ (.int .i64 (plOf ya yn).2) = WE at *
          refine hK.out _ _ (HSof.out _ hWE) (fun hHeld => ?_)
          clear hK K f0 f1 f2 f3 g0 g1 g2 g3 hBW
          refine wpAnyH_done (by kernel_rfl) ?_ _
          exact h _ _ _ _ _ _ _ _ _ _ _ _ _ hWE hBge ⟨e0, e1, e2, e3⟩
        · skip
          go_simp
          have hBn : Below W.heap.size W (wn2.alloc (.cells #[.pointer none, .int .i64 0, .pointer none, .int .i64 0] 70)) := hBW.alloc hBW.size _
          have hfour : Four (wn2.alloc (.cells #[.pointer none, .int .i64 0, .pointer none, .int .i64 0] 70)) wn2.heap.size (.pointer none) (.int .i64 0) (.pointer none) (.int .i64 0) := Four.new wn2 _ _ _ _ _
          refine hK.out _ _ (HSof.out _ hBn) (fun hHeld => ?_)
          have hBsz := hBW.size
          clear hK K hBW
          have hBW := hBn
          clear hBn
          obtain ⟨B, hBd⟩ : ∃ B, wn2.heap.size = B := ⟨_, rfl⟩
          have hBge : W.heap.size ≤ B := by omega
          rw [hBd] at hfour ⊢
          clear hBd
          generalize (wn2.alloc (.cells #[.pointer none, .int .i64 0, .pointer none, .int .i64 0] 70)) = WA at *
          refine wpAnyH_ready (rs := [9]) (by kernel_rfl) (by simp) ?_
          refine AllReadyH.cons rfl (fun K hK => ?_) AllReadyH.nil
          go_simp
          refine (placeOfV_any ya yn yc _ hya hyl).mono ?_
          rintro r wn3 ⟨rfl, hbn⟩
          have hBn := hBW.trans (hbn.mono hBW.size)
          have hfn := hfour.below hbn hfour.lt
          clear hfour
          have hfour := hfn
          clear hfn
          go_wp2_with fail
          refine hK.out _ _ (HSof.out _ hBn) (fun hHeld => ?_)
          clear hK K hBW hbn
          have hBW := hBn
          clear hBn
          refine wpAnyH_take (i := 10) (v := pl2V (plOf xa xn, plOf ya yn)) rfl (by kernel_rfl) (by kernel_rfl) (by kernel_rfl) (fun _ _ _ h => hp _ _ _ _ _ h) (Or.inl ⟨by rfl, ?_⟩) (by assumption) ?_
          · intro w hSw
            (try dsimp only at hSw)
            unfold plV pl2V
            go_simp
          (try simp only [Act.put, List.getElem_toArray, List.getElem_cons_zero, List.getElem_cons_succ, List.setIfInBounds_toArray, List.set_cons_zero, List.set_cons_succ])
          obtain ⟨⟨f0, f1, f2, f3⟩, g0, g1, g2, g3⟩ := hfour
          refine wpAnyH_ready (rs := [12]) (by kernel_rfl) (by simp) ?_
          refine AllReadyH.cons rfl (fun K hK => ?_) AllReadyH.nil
          unfold pl2V
          go_simp
          have hWE : Below W.heap.size W ((((wn3.setCell ⟨B, 0, none⟩ (.pointer (plOf xa xn).1)).setCell ⟨B, 1, none⟩ (.int .i64 (plOf xa xn).2)).setCell ⟨B, 2, none⟩ (.pointer (plOf ya yn).1)).setCell ⟨B, 3, none⟩ (.int .i64 (plOf ya yn).2)) := (((hBW.setCell (p := ⟨B, 0, none⟩) hBge _).setCell (p := ⟨B, 1, none⟩) hBge _).setCell (p := ⟨B, 2, none⟩) hBge _).setCell (p := ⟨B, 3, none⟩) hBge _
          have e0 : ((((wn3.setCell ⟨B, 0, none⟩ (.pointer (plOf xa xn).1)).setCell ⟨B, 1, none⟩ (.int .i64 (plOf xa xn).2)).setCell ⟨B, 2, none⟩ (.pointer (plOf ya yn).1)).setCell ⟨B, 3, none⟩ (.int .i64 (plOf ya yn).2)).cell? ⟨B, 0, none⟩ = some (.pointer (plOf xa xn).1) := by rw [set_far (by omega), set_far (by omega), set_far (by omega)]; exact set_near ⟨_, f0⟩
          have e1 : ((((wn3.setCell ⟨B, 0, none⟩ (.pointer (plOf xa xn).1)).setCell ⟨B, 1, none⟩ (.int .i64 (plOf xa xn).2)).setCell ⟨B, 2, none⟩ (.pointer (plOf ya yn).1)).setCell ⟨B, 3, none⟩ (.int .i64 (plOf ya yn).2)).cell? ⟨B, 1, none⟩ = some (.int .i64 (plOf xa xn).2) := by rw [set_far (by omega), set_far (by omega)]; exact set_near (set_is ⟨_, f1⟩)
          have e2 : ((((wn3.setCell ⟨B, 0, none⟩ (.pointer (plOf xa xn).1)).setCell ⟨B, 1, none⟩ (.int .i64 (plOf xa xn).2)).setCell ⟨B, 2, none⟩ (.pointer (plOf ya yn).1)).setCell ⟨B, 3, none⟩ (.int .i64 (plOf ya yn).2)).cell? ⟨B, 2, none⟩ = some (.pointer (plOf ya yn).1) := by rw [set_far (by omega)]; exact set_near (set_is (set_is ⟨_, f2⟩))
          have e3 : ((((wn3.setCell ⟨B, 0, none⟩ (.pointer (plOf xa xn).1)).setCell ⟨B, 1, none⟩ (.int .i64 (plOf xa xn).2)).setCell ⟨B, 2, none⟩ (.pointer (plOf ya yn).1)).setCell ⟨B, 3, none⟩ (.int .i64 (plOf ya yn).2)).cell? ⟨B, 3, none⟩ = some (.int .i64 (plOf ya yn).2) := set_near (set_is (set_is (set_is ⟨_, f3⟩)))
          generalize (((wn3.setCell ⟨B, 0, none⟩ (.pointer (plOf xa xn).1)).setCell ⟨B, 1, none⟩ (.int .i64 (plOf xa xn).2)).setCell ⟨B, 2, none⟩ (.pointer (plOf ya yn).1)).setCell ⟨B, 3, none⟩ (.int .i64 (plOf ya yn).2) = WE at *
          refine hK.out _ _ (HSof.out _ hWE) (fun hHeld => ?_)
          clear hK K f0 f1 f2 f3 g0 g1 g2 g3 hBW
          refine wpAnyH_done (by kernel_rfl) ?_ _
          exact h _ _ _ _ _ _ _ _ _ _ _ _ _ hWE hBge ⟨e0, e1, e2, e3⟩
      · skip
        go_simp
        have hBn : Below W.heap.size W (wn1.alloc (.cells #[.pointer none, .int .i64 0, .pointer none, .int .i64 0] 70)) := hBW.alloc hBW.size _
        have hfour : Four (wn1.alloc (.cells #[.pointer none, .int .i64 0, .pointer none, .int .i64 0] 70)) wn1.heap.size (.pointer none) (.int .i64 0) (.pointer none) (.int .i64 0) := Four.new wn1 _ _ _ _ _
        refine hK.out _ _ (HSof.out _ hBn) (fun hHeld => ?_)
        have hBsz := hBW.size
        clear hK K hBW
        have hBW := hBn
        clear hBn
        obtain ⟨B, hBd⟩ : ∃ B, wn1.heap.size = B := ⟨_, rfl⟩
        have hBge : W.heap.size ≤ B := by omega
        rw [hBd] at hfour ⊢
        clear hBd
        generalize (wn1.alloc (.cells #[.pointer none, .int .i64 0, .pointer none, .int .i64 0] 70)) = WA at *
        refine wpAnyH_ready (rs := [8]) (by kernel_rfl) (by simp) ?_
        refine AllReadyH.cons rfl (fun K hK => ?_) AllReadyH.nil
        go_simp
        refine (belowV_any yh ya yn yc _).mono ?_
        rintro r wn2 ⟨rfl, hbn⟩
        have hBn := hBW.trans (hbn.mono hBW.size)
        have hfn := hfour.below hbn hfour.lt
        clear hfour
        have hfour := hfn
        clear hfn
        go_wp2_with fail
        refine hK.out _ _ (HSof.out _ hBn) (fun hHeld => ?_)
        clear hK K hBW hbn
        have hBW := hBn
        clear hBn
        refine wpAnyH_ready (rs := [9]) (by kernel_rfl) (by simp) ?_
        refine AllReadyH.cons rfl (fun K hK => ?_) AllReadyH.nil
        go_simp
        refine (placeOfV_any ya yn yc _ hya hyl).mono ?_
        rintro r wn3 ⟨rfl, hbn⟩
        have hBn := hBW.trans (hbn.mono hBW.size)
        have hfn := hfour.below hbn hfour.lt
        clear hfour
        have hfour := hfn
        clear hfn
        go_wp2_with fail
        refine hK.out _ _ (HSof.out _ hBn) (fun hHeld => ?_)
        clear hK K hBW hbn
        have hBW := hBn
        clear hBn
        refine wpAnyH_take (i := 10) (v := pl2V (plOf xa xn, plOf ya yn)) rfl (by kernel_rfl) (by kernel_rfl) (by kernel_rfl) (fun _ _ _ h => hp _ _ _ _ _ h) (Or.inl ⟨by rfl, ?_⟩) (by assumption) ?_
        · intro w hSw
          (try dsimp only at hSw)
          unfold plV pl2V
          go_simp
        (try simp only [Act.put, List.getElem_toArray, List.getElem_cons_zero, List.getElem_cons_succ, List.setIfInBounds_toArray, List.set_cons_zero, List.set_cons_succ])
        obtain ⟨⟨f0, f1, f2, f3⟩, g0, g1, g2, g3⟩ := hfour
        refine wpAnyH_ready (rs := [12]) (by kernel_rfl) (by simp) ?_
        refine AllReadyH.cons rfl (fun K hK => ?_) AllReadyH.nil
        unfold pl2V
        go_simp
        have hWE : Below W.heap.size W ((((wn3.setCell ⟨B, 0, none⟩ (.pointer (plOf xa xn).1)).setCell ⟨B, 1, none⟩ (.int .i64 (plOf xa xn).2)).setCell ⟨B, 2, none⟩ (.pointer (plOf ya yn).1)).setCell ⟨B, 3, none⟩ (.int .i64 (plOf ya yn).2)) := (((hBW.setCell (p := ⟨B, 0, none⟩) hBge _).setCell (p := ⟨B, 1, none⟩) hBge _).setCell (p := ⟨B, 2, none⟩) hBge _).setCell (p := ⟨B, 3, none⟩) hBge _
        have e0 : ((((wn3.setCell ⟨B, 0, none⟩ (.pointer (plOf xa xn).1)).setCell ⟨B, 1, none⟩ (.int .i64 (plOf xa xn).2)).setCell ⟨B, 2, none⟩ (.pointer (plOf ya yn).1)).setCell ⟨B, 3, none⟩ (.int .i64 (plOf ya yn).2)).cell? ⟨B, 0, none⟩ = some (.pointer (plOf xa xn).1) := by rw [set_far (by omega), set_far (by omega), set_far (by omega)]; exact set_near ⟨_, f0⟩
        have e1 : ((((wn3.setCell ⟨B, 0, none⟩ (.pointer (plOf xa xn).1)).setCell ⟨B, 1, none⟩ (.int .i64 (plOf xa xn).2)).setCell ⟨B, 2, none⟩ (.pointer (plOf ya yn).1)).setCell ⟨B, 3, none⟩ (.int .i64 (plOf ya yn).2)).cell? ⟨B, 1, none⟩ = some (.int .i64 (plOf xa xn).2) := by rw [set_far (by omega), set_far (by omega)]; exact set_near (set_is ⟨_, f1⟩)
        have e2 : ((((wn3.setCell ⟨B, 0, none⟩ (.pointer (plOf xa xn).1)).setCell ⟨B, 1, none⟩ (.int .i64 (plOf xa xn).2)).setCell ⟨B, 2, none⟩ (.pointer (plOf ya yn).1)).setCell ⟨B, 3, none⟩ (.int .i64 (plOf ya yn).2)).cell? ⟨B, 2, none⟩ = some (.pointer (plOf ya yn).1) := by rw [set_far (by omega)]; exact set_near (set_is (set_is ⟨_, f2⟩))
        have e3 : ((((wn3.setCell ⟨B, 0, none⟩ (.pointer (plOf xa xn).1)).setCell ⟨B, 1, none⟩ (.int .i64 (plOf xa xn).2)).setCell ⟨B, 2, none⟩ (.pointer (plOf ya yn).1)).setCell ⟨B, 3, none⟩ (.int .i64 (plOf ya yn).2)).cell? ⟨B, 3, none⟩ = some (.int .i64 (plOf ya yn).2) := set_near (set_is (set_is (set_is ⟨_, f3⟩)))
        generalize (((wn3.setCell ⟨B, 0, none⟩ (.pointer (plOf xa xn).1)).setCell ⟨B, 1, none⟩ (.int .i64 (plOf xa xn).2)).setCell ⟨B, 2, none⟩ (.pointer (plOf ya yn).1)).setCell ⟨B, 3, none⟩ (.int .i64 (plOf ya yn).2) = WE at *
        refine hK.out _ _ (HSof.out _ hWE) (fun hHeld => ?_)
        clear hK K f0 f1 f2 f3 g0 g1 g2 g3 hBW
        refine wpAnyH_done (by kernel_rfl) ?_ _
        exact h _ _ _ _ _ _ _ _ _ _ _ _ _ hWE hBge ⟨e0, e1, e2, e3⟩
    · skip
      go_simp
      have hBn : Below W.heap.size W (wn0.alloc (.cells #[.pointer none, .int .i64 0, .pointer none, .int .i64 0] 70)) := hBW.alloc hBW.size _
      have hfour : Four (wn0.alloc (.cells #[.pointer none, .int .i64 0, .pointer none, .int .i64 0] 70)) wn0.heap.size (.pointer none) (.int .i64 0) (.pointer none) (.int .i64 0) := Four.new wn0 _ _ _ _ _
      refine hK.out _ _ (HSof.out _ hBn) (fun hHeld => ?_)
      have hBsz := hBW.size
      clear hK K hBW
      have hBW := hBn
      clear hBn
      obtain ⟨B, hBd⟩ : ∃ B, wn0.heap.size = B := ⟨_, rfl⟩
      have hBge : W.heap.size ≤ B := by omega
      rw [hBd] at hfour ⊢
      clear hBd
      generalize (wn0.alloc (.cells #[.pointer none, .int .i64 0, .pointer none, .int .i64 0] 70)) = WA at *
      refine wpAnyH_ready (rs := [4]) (by kernel_rfl) (by simp) ?_
      refine AllReadyH.cons rfl (fun K hK => ?_) AllReadyH.nil
      go_simp
      refine (placeOfV_any xa xn xc _ hxa hxl).mono ?_
      rintro r wn1 ⟨rfl, hbn⟩
      have hBn := hBW.trans (hbn.mono hBW.size)
      have hfn := hfour.below hbn hfour.lt
      clear hfour
      have hfour := hfn
      clear hfn
      go_wp2_with fail
      refine hK.out _ _ (HSof.out _ hBn) (fun hHeld => ?_)
      clear hK K hBW hbn
      have hBW := hBn
      clear hBn
      refine wpAnyH_ready (rs := [8]) (by kernel_rfl) (by simp) ?_
      refine AllReadyH.cons rfl (fun K hK => ?_) AllReadyH.nil
      go_simp
      refine (belowV_any yh ya yn yc _).mono ?_
      rintro r wn2 ⟨rfl, hbn⟩
      have hBn := hBW.trans (hbn.mono hBW.size)
      have hfn := hfour.below hbn hfour.lt
      clear hfour
      have hfour := hfn
      clear hfn
      go_wp2_with fail
      refine hK.out _ _ (HSof.out _ hBn) (fun hHeld => ?_)
      clear hK K hBW hbn
      have hBW := hBn
      clear hBn
      refine wpAnyH_ready (rs := [9]) (by kernel_rfl) (by simp) ?_
      refine AllReadyH.cons rfl (fun K hK => ?_) AllReadyH.nil
      go_simp
      refine (placeOfV_any ya yn yc _ hya hyl).mono ?_
      rintro r wn3 ⟨rfl, hbn⟩
      have hBn := hBW.trans (hbn.mono hBW.size)
      have hfn := hfour.below hbn hfour.lt
      clear hfour
      have hfour := hfn
      clear hfn
      go_wp2_with fail
      refine hK.out _ _ (HSof.out _ hBn) (fun hHeld => ?_)
      clear hK K hBW hbn
      have hBW := hBn
      clear hBn
      refine wpAnyH_take (i := 10) (v := pl2V (plOf xa xn, plOf ya yn)) rfl (by kernel_rfl) (by kernel_rfl) (by kernel_rfl) (fun _ _ _ h => hp _ _ _ _ _ h) (Or.inl ⟨by rfl, ?_⟩) (by assumption) ?_
      · intro w hSw
        (try dsimp only at hSw)
        unfold plV pl2V
        go_simp
      (try simp only [Act.put, List.getElem_toArray, List.getElem_cons_zero, List.getElem_cons_succ, List.setIfInBounds_toArray, List.set_cons_zero, List.set_cons_succ])
      obtain ⟨⟨f0, f1, f2, f3⟩, g0, g1, g2, g3⟩ := hfour
      refine wpAnyH_ready (rs := [12]) (by kernel_rfl) (by simp) ?_
      refine AllReadyH.cons rfl (fun K hK => ?_) AllReadyH.nil
      unfold pl2V
      go_simp
      have hWE : Below W.heap.size W ((((wn3.setCell ⟨B, 0, none⟩ (.pointer (plOf xa xn).1)).setCell ⟨B, 1, none⟩ (.int .i64 (plOf xa xn).2)).setCell ⟨B, 2, none⟩ (.pointer (plOf ya yn).1)).setCell ⟨B, 3, none⟩ (.int .i64 (plOf ya yn).2)) := (((hBW.setCell (p := ⟨B, 0, none⟩) hBge _).setCell (p := ⟨B, 1, none⟩) hBge _).setCell (p := ⟨B, 2, none⟩) hBge _).setCell (p := ⟨B, 3, none⟩) hBge _
      have e0 : ((((wn3.setCell ⟨B, 0, none⟩ (.pointer (plOf xa xn).1)).setCell ⟨B, 1, none⟩ (.int .i64 (plOf xa xn).2)).setCell ⟨B, 2, none⟩ (.pointer (plOf ya yn).1)).setCell ⟨B, 3, none⟩ (.int .i64 (plOf ya yn).2)).cell? ⟨B, 0, none⟩ = some (.pointer (plOf xa xn).1) := by rw [set_far (by omega), set_far (by omega), set_far (by omega)]; exact set_near ⟨_, f0⟩
      have e1 : ((((wn3.setCell ⟨B, 0, none⟩ (.pointer (plOf xa xn).1)).setCell ⟨B, 1, none⟩ (.int .i64 (plOf xa xn).2)).setCell ⟨B, 2, none⟩ (.pointer (plOf ya yn).1)).setCell ⟨B, 3, none⟩ (.int .i64 (plOf ya yn).2)).cell? ⟨B, 1, none⟩ = some (.int .i64 (plOf xa xn).2) := by rw [set_far (by omega), set_far (by omega)]; exact set_near (set_is ⟨_, f1⟩)
      have e2 : ((((wn3.setCell ⟨B, 0, none⟩ (.pointer (plOf xa xn).1)).setCell ⟨B, 1, none⟩ (.int .i64 (plOf xa xn).2)).setCell ⟨B, 2, none⟩ (.pointer (plOf ya yn).1)).setCell ⟨B, 3, none⟩ (.int .i64 (plOf ya yn).2)).cell? ⟨B, 2, none⟩ = some (.pointer (plOf ya yn).1) := by rw [set_far (by omega)]; exact set_near (set_is (set_is ⟨_, f2⟩))
      have e3 : ((((wn3.setCell ⟨B, 0, none⟩ (.pointer (plOf xa xn).1)).setCell ⟨B, 1, none⟩ (.int .i64 (plOf xa xn).2)).setCell ⟨B, 2, none⟩ (.pointer (plOf ya yn).1)).setCell ⟨B, 3, none⟩ (.int .i64 (plOf ya yn).2)).cell? ⟨B, 3, none⟩ = some (.int .i64 (plOf ya yn).2) := set_near (set_is (set_is (set_is ⟨_, f3⟩)))
      generalize (((wn3.setCell ⟨B, 0, none⟩ (.pointer (plOf xa xn).1)).setCell ⟨B, 1, none⟩ (.int .i64 (plOf xa xn).2)).setCell ⟨B, 2, none⟩ (.pointer (plOf ya yn).1)).setCell ⟨B, 3, none⟩ (.int .i64 (plOf ya yn).2) = WE at *
      refine hK.out _ _ (HSof.out _ hWE) (fun hHeld => ?_)
      clear hK K f0 f1 f2 f3 g0 g1 g2 g3 hBW
      refine wpAnyH_done (by kernel_rfl) ?_ _
      exact h _ _ _ _ _ _ _ _ _ _ _ _ _ hWE hBge ⟨e0, e1, e2, e3⟩
  · skip
    go_simp
    have hBn : Below W.heap.size W (W.alloc (.cells #[.pointer none, .int .i64 0, .pointer none, .int .i64 0] 70)).drew := ((Below.refl _ W).alloc (Nat.le_refl _) _).drew
    have hfour : Four (W.alloc (.cells #[.pointer none, .int .i64 0, .pointer none, .int .i64 0] 70)).drew W.heap.size (.pointer none) (.int .i64 0) (.pointer none) (.int .i64 0) := (Four.new W _ _ _ _ _).drew
    refine hK.out _ _ (HSof.out _ hBn) (fun hHeld => ?_)
    have hBsz := hBW.size
    clear hK K hBW
    have hBW := hBn
    clear hBn
    obtain ⟨B, hBd⟩ : ∃ B, W.heap.size = B := ⟨_, rfl⟩
    have hBge : W.heap.size ≤ B := by omega
    rw [hBd] at hfour ⊢
    clear hBd
    generalize (W.alloc (.cells #[.pointer none, .int .i64 0, .pointer none, .int .i64 0] 70)).drew = WA at *
    refine wpAnyH_ready (rs := [3]) (by kernel_rfl) (by simp) ?_
    refine AllReadyH.cons rfl (fun K hK => ?_) AllReadyH.nil
    go_simp
    refine (belowV_any xh xa xn xc _).mono ?_
    rintro r wn0 ⟨rfl, hbn⟩
    have hBn := hBW.trans (hbn.mono hBW.size)
    have hfn := hfour.below hbn hfour.lt
    clear hfour
    have hfour := hfn
    clear hfn
    go_wp2_with fail
    refine hK.out _ _ (HSof.out _ hBn) (fun hHeld => ?_)
    clear hK K hBW hbn
    have hBW := hBn
    clear hBn
    refine wpAnyH_ready (rs := [4]) (by kernel_rfl) (by simp) ?_
    refine AllReadyH.cons rfl (fun K hK => ?_) AllReadyH.nil
    go_simp
    refine (placeOfV_any xa xn xc _ hxa hxl).mono ?_
    rintro r wn1 ⟨rfl, hbn⟩
    have hBn := hBW.trans (hbn.mono hBW.size)
    have hfn := hfour.below hbn hfour.lt
    clear hfour
    have hfour := hfn
    clear hfn
    go_wp2_with fail
    refine hK.out _ _ (HSof.out _ hBn) (fun hHeld => ?_)
    clear hK K hBW hbn
    have hBW := hBn
    clear hBn
    refine wpAnyH_ready (rs := [8]) (by kernel_rfl) (by simp) ?_
    refine AllReadyH.cons rfl (fun K hK => ?_) AllReadyH.nil
    go_simp
    refine (belowV_any yh ya yn yc _).mono ?_
    rintro r wn2 ⟨rfl, hbn⟩
    have hBn := hBW.trans (hbn.mono hBW.size)
    have hfn := hfour.below hbn hfour.lt
    clear hfour
    have hfour := hfn
    clear hfn
    go_wp2_with fail
    refine hK.out _ _ (HSof.out _ hBn) (fun hHeld => ?_)
    clear hK K hBW hbn
    have hBW := hBn
    clear hBn
    refine wpAnyH_ready (rs := [9]) (by kernel_rfl) (by simp) ?_
    refine AllReadyH.cons rfl (fun K hK => ?_) AllReadyH.nil
    go_simp
    refine (placeOfV_any ya yn yc _ hya hyl).mono ?_
    rintro r wn3 ⟨rfl, hbn⟩
    have hBn := hBW.trans (hbn.mono hBW.size)
    have hfn := hfour.below hbn hfour.lt
    clear hfour
    have hfour := hfn
    clear hfn
    go_wp2_with fail
    refine hK.out _ _ (HSof.out _ hBn) (fun hHeld => ?_)
    clear hK K hBW hbn
    have hBW := hBn
    clear hBn
    refine wpAnyH_take (i := 10) (v := pl2V (plOf xa xn, plOf ya yn)) rfl (by kernel_rfl) (by kernel_rfl) (by kernel_rfl) (fun _ _ _ h => hp _ _ _ _ _ h) (Or.inl ⟨by rfl, ?_⟩) (by assumption) ?_
    · intro w hSw
      (try dsimp only at hSw)
      unfold plV pl2V
      go_simp
    (try simp only [Act.put, List.getElem_toArray, List.getElem_cons_zero, List.getElem_cons_succ, List.setIfInBounds_toArray, List.set_cons_zero, List.set_cons_succ])
    obtain ⟨⟨f0, f1, f2, f3⟩, g0, g1, g2, g3⟩ := hfour
    refine wpAnyH_ready (rs := [12]) (by kernel_rfl) (by simp) ?_
    refine AllReadyH.cons rfl (fun K hK => ?_) AllReadyH.nil
    unfold pl2V
    go_simp
    have hWE : Below W.heap.size W ((((wn3.setCell ⟨B, 0, none⟩ (.pointer (plOf xa xn).1)).setCell ⟨B, 1, none⟩ (.int .i64 (plOf xa xn).2)).setCell ⟨B, 2, none⟩ (.pointer (plOf ya yn).1)).setCell ⟨B, 3, none⟩ (.int .i64 (plOf ya yn).2)) := (((hBW.setCell (p := ⟨B, 0, none⟩) hBge _).setCell (p := ⟨B, 1, none⟩) hBge _).setCell (p := ⟨B, 2, none⟩) hBge _).setCell (p := ⟨B, 3, none⟩) hBge _
    have e0 : ((((wn3.setCell ⟨B, 0, none⟩ (.pointer (plOf xa xn).1)).setCell ⟨B, 1, none⟩ (.int .i64 (plOf xa xn).2)).setCell ⟨B, 2, none⟩ (.pointer (plOf ya yn).1)).setCell ⟨B, 3, none⟩ (.int .i64 (plOf ya yn).2)).cell? ⟨B, 0, none⟩ = some (.pointer (plOf xa xn).1) := by rw [set_far (by omega), set_far (by omega), set_far (by omega)]; exact set_near ⟨_, f0⟩
    have e1 : ((((wn3.setCell ⟨B, 0, none⟩ (.pointer (plOf xa xn).1)).setCell ⟨B, 1, none⟩ (.int .i64 (plOf xa xn).2)).setCell ⟨B, 2, none⟩ (.pointer (plOf ya yn).1)).setCell ⟨B, 3, none⟩ (.int .i64 (plOf ya yn).2)).cell? ⟨B, 1, none⟩ = some (.int .i64 (plOf xa xn).2) := by rw [set_far (by omega), set_far (by omega)]; exact set_near (set_is ⟨_, f1⟩)
    have e2 : ((((wn3.setCell ⟨B, 0, none⟩ (.pointer (plOf xa xn).1)).setCell ⟨B, 1, none⟩ (.int .i64 (plOf xa xn).2)).setCell ⟨B, 2, none⟩ (.pointer (plOf ya yn).1)).setCell ⟨B, 3, none⟩ (.int .i64 (plOf ya yn).2)).cell? ⟨B, 2, none⟩ = some (.pointer (plOf ya yn).1) := by rw [set_far (by omega)]; exact set_near (set_is (set_is ⟨_, f2⟩))
    have e3 : ((((wn3.setCell ⟨B, 0, none⟩ (.pointer (plOf xa xn).1)).setCell ⟨B, 1, none⟩ (.int .i64 (plOf xa xn).2)).setCell ⟨B, 2, none⟩ (.pointer (plOf ya yn).1)).setCell ⟨B, 3, none⟩ (.int .i64 (plOf ya yn).2)).cell? ⟨B, 3, none⟩ = some (.int .i64 (plOf ya yn).2) := set_near (set_is (set_is (set_is ⟨_, f3⟩)))
    generalize (((wn3.setCell ⟨B, 0, none⟩ (.pointer (plOf xa xn).1)).setCell ⟨B, 1, none⟩ (.int .i64 (plOf xa xn).2)).setCell ⟨B, 2, none⟩ (.pointer (plOf ya yn).1)).setCell ⟨B, 3, none⟩ (.int .i64 (plOf ya yn).2) = WE at *
    refine hK.out _ _ (HSof.out _ hWE) (fun hHeld => ?_)
    clear hK K f0 f1 f2 f3 g0 g1 g2 g3 hBW
    refine wpAnyH_done (by kernel_rfl) ?_ _
    exact h _ _ _ _ _ _ _ _ _ _ _ _ _ hWE hBge ⟨e0, e1, e2, e3⟩
end Go.Proofs.Ytohldacplapjkaa
