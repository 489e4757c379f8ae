/- How many trees a tree has, by the program: the regions behind the range. -/
import Derived.Test.YtapdlnakbpociaaZi
namespace Go.Proofs.Ytapdlnakbpociaa
open Go.RowKit
set_option maxRecDepth 100000 in
set_option maxHeartbeats 2000000 in
theorem ex15 {ds : List Deferred} {Q : Exit → Act → World → Prop} {t0 t2 t4 t5 t6 t7 t8 t9 t10 t11 t12 t13 t14 t15 t16 t17 t18 t19 t20 t21 t22 t23 t24 t25 t26 t27 t28 t29 t30 t31 t32 t33 t34 t35 t36 t37 t38 t39 t40 t41 t42 t43 t44 t45 t46 t47 t48 t49 t50 t51 t52 t53 t54 t55 t56 t57 t58 t59 t60 t61 t62 t63 t64 : Value} {W : World} {kb mb tb m c p q : Nat} {k : Int} {t : ByteArray} {mm e : Int} {a : Option Addr} {L : List (Pl × Value)}
    (hk : W.cell? ⟨kb, 0, none⟩ = some (.map (some mb))) (hT : (W.cell? ⟨tb, 0, none⟩ = some (.int .i64 k) ∧ W.cell? ⟨tb, 1, none⟩ = some (.string t) ∧ W.cell? ⟨tb, 2, none⟩ = some (.int .i64 mm) ∧ W.cell? ⟨tb, 3, none⟩ = some (.int .i64 e) ∧ W.cell? ⟨tb, 4, none⟩ = some (.slice a m c))) (hm : plKeys.Is W mb L) (hok : PlOk W (plOf a m)) (hoks : ∀ q ∈ L, PlOk W q.1) (ha : m = 0 ∨ ∃ b o, a = some ⟨b, o, none⟩) (hml : m ≤ 2000000) (hg : (getL (plOf a m) L).getD (.agg #[.int .i64 0, .int .i64 0]) = (.agg #[.int .i64 p, .int .i64 q]))
    (hp : ∀ p d v a w, Q (.panic p) (Act.put a d v) w → Q (.panic p) a w) (h : ∀ ws B v52 v53 v54 v55 v56 v57, W.heap.size ≤ B → Below W.heap.size W ws → Row ws B [.int .i64 p, .int .i64 q] → Q .normal { tmps := (t0 :: (.pointer (some ⟨tb, 0, none⟩)) :: t2 :: (.pointer (some ⟨kb, 0, none⟩)) :: t4 :: t5 :: t6 :: t7 :: t8 :: t9 :: (.pointer (some ⟨B, 0, none⟩)) :: t11 :: t12 :: t13 :: t14 :: t15 :: t16 :: t17 :: t18 :: t19 :: t20 :: t21 :: t22 :: t23 :: t24 :: t25 :: t26 :: t27 :: t28 :: t29 :: t30 :: t31 :: t32 :: t33 :: t34 :: t35 :: t36 :: t37 :: t38 :: t39 :: t40 :: t41 :: t42 :: t43 :: t44 :: t45 :: t46 :: t47 :: t48 :: t49 :: t50 :: t51 :: v52 :: v53 :: v54 :: v55 :: v56 :: v57 :: t58 :: t59 :: t60 :: t61 :: t62 :: t63 :: t64 :: []).toArray, defers := ds } ws) :
    Code.wp Try.prog (Code.region 15 #[{ dst := some 52, op := Op.load 73 (Operand.tmp 3), type := 73, pos := "l3_tree.go:307", after := #[], guard := none }, { dst := some 53, op := Op.load 32 (Operand.tmp 1), type := 32, pos := "l3_tree.go:307", after := #[], guard := none }, { dst := some 54, op := Op.makeInterface 32 (Operand.tmp 53), type := 20, pos := "l3_tree.go:307", after := #[{ on := 1, ground := Ground.data }], guard := none }, { dst := some 55, op := Op.call { callee := Callee.invoke (Operand.tmp 54) "loop.example/chancery/impl.below", args := #[], argTypes := #[] }, type := 30, pos := "l3_tree.go:307", after := #[{ on := 2, ground := Ground.data }], guard := none }, { dst := some 56, op := Op.call { callee := Callee.value (Operand.func 49), args := #[Operand.tmp 55], argTypes := #[30] }, type := 80, pos := "l3_tree.go:307", after := #[{ on := 3, ground := Ground.data }, { on := 3, ground := Ground.chain }], guard := none }, { dst := some 57, op := Op.lookup 73 (Operand.tmp 52) (Operand.tmp 56) false, type := 49, pos := "l3_tree.go:307", after := #[{ on := 0, ground := Ground.data }, { on := 4, ground := Ground.data }], guard := none }, { dst := some 10, op := Op.alloc 49, type := 0, pos := "l3_tree.go:307", after := #[], guard := none }, { dst := none, op := Op.store 49 (Operand.tmp 10) (Operand.tmp 57), type := 0, pos := "l3_tree.go:307", after := #[{ on := 6, ground := Ground.data }, { on := 5, ground := Ground.data }, { on := 4, ground := Ground.chain }, { on := 0, ground := Ground.phase }, { on := 1, ground := Ground.phase }, { on := 2, ground := Ground.phase }, { on := 3, ground := Ground.phase }, { on := 4, ground := Ground.phase }, { on := 5, ground := Ground.phase }, { on := 6, ground := Ground.phase }], guard := none }] true) Q { tmps := (t0 :: (.pointer (some ⟨tb, 0, none⟩)) :: t2 :: (.pointer (some ⟨kb, 0, none⟩)) :: t4 :: t5 :: t6 :: t7 :: t8 :: t9 :: t10 :: t11 :: t12 :: t13 :: t14 :: t15 :: t16 :: t17 :: t18 :: t19 :: t20 :: t21 :: t22 :: t23 :: t24 :: t25 :: t26 :: t27 :: t28 :: t29 :: t30 :: t31 :: t32 :: t33 :: t34 :: t35 :: t36 :: t37 :: t38 :: t39 :: t40 :: t41 :: t42 :: t43 :: t44 :: t45 :: t46 :: t47 :: t48 :: t49 :: t50 :: t51 :: t52 :: t53 :: t54 :: t55 :: t56 :: t57 :: t58 :: t59 :: t60 :: t61 :: t62 :: t63 :: t64 :: []).toArray, defers := ds } W := by
  have hmeth := below_method
  have hB0 := (Below.refl W.heap.size W).drew
  have HSof : Hid (∀ w', Below W.heap.size W w' → w'.cell? ⟨kb, 0, none⟩ = some (.map (some mb)) ∧ (w'.cell? ⟨tb, 0, none⟩ = some (.int .i64 k) ∧ w'.cell? ⟨tb, 1, none⟩ = some (.string t) ∧ w'.cell? ⟨tb, 2, none⟩ = some (.int .i64 mm) ∧ w'.cell? ⟨tb, 3, none⟩ = some (.int .i64 e) ∧ w'.cell? ⟨tb, 4, none⟩ = some (.slice a m c)) ∧ (Instr.lookup 73 (.map (some mb)) (.agg #[.pointer (plOf a m).1, .int .i64 (plOf a m).2]) false).run Try.prog w' = .ok (.agg #[.int .i64 p, .int .i64 q]) w') := fun w' h => by
    have hk1 := World.block_lt_of_cell? _ _ hk
    have ht1 := World.block_lt_of_cell? _ _ hT.1
    have hmlt : mb < W.heap.size := by obtain ⟨es, clock, h, _⟩ := hm; exact (Array.getElem?_eq_some_iff.1 h).1
    have hz : (zeroValue 49).run Try.prog w' = .ok (.agg #[.int .i64 0, .int .i64 0]) w' := by kernel_rfl
    have hl := plKeys.look (mty := 73) (et := 49) Try.underlying73 (plOf a m) (hok.below h) (fun q hq => (hoks q hq).below h) (hm.grown _ (h.block _ hmlt)) hz
    rw [hg] at hl
    exact ⟨(h.cell (p := ⟨kb, 0, none⟩) hk1).trans hk, ⟨(h.cell (p := ⟨tb, 0, none⟩) ht1).trans hT.1, (h.cell (p := ⟨tb, 1, none⟩) ht1).trans hT.2.1, (h.cell (p := ⟨tb, 2, none⟩) ht1).trans hT.2.2.1, (h.cell (p := ⟨tb, 3, none⟩) ht1).trans hT.2.2.2.1, (h.cell (p := ⟨tb, 4, none⟩) ht1).trans hT.2.2.2.2⟩, hl⟩
  clear hk hT hm hok hoks hg
  refine wp_region_held_drew (S := fun w' => Below W.heap.size W w') (by kernel_rfl) hB0 (fun hHeld => ?_)
  refine wpAnyH_take (i := 0) (v := .map (some mb)) rfl (by kernel_rfl) (by kernel_rfl) (by kernel_rfl) (fun _ _ _ h => hp _ _ _ _ _ h) (Or.inl ⟨by rfl, ?_⟩) (by assumption) ?_
  · intro w hSw
    (try dsimp only at hSw)
    obtain ⟨f0, ⟨f1, f2, f3, f4, f5⟩, f6⟩ := HSof.out _ hSw
    go_simp
  (try simp only [Act.put, List.getElem_toArray, List.getElem_cons_zero, List.setIfInBounds_toArray, List.set_cons_zero, List.set_cons_succ])
  refine wpAnyH_take (i := 1) (v := nodeV k t mm e a m c) rfl (by kernel_rfl) (by kernel_rfl) (by kernel_rfl) (fun _ _ _ h => hp _ _ _ _ _ h) (Or.inl ⟨by rfl, ?_⟩) (by assumption) ?_
  · intro w hSw
    (try dsimp only at hSw)
    obtain ⟨f0, ⟨f1, f2, f3, f4, f5⟩, f6⟩ := HSof.out _ hSw
    go_simp
  (try simp only [Act.put, List.getElem_toArray, List.getElem_cons_zero, List.getElem_cons_succ, List.setIfInBounds_toArray, List.set_cons_zero, List.set_cons_succ])
  refine wpAnyH_take (i := 2) (v := .iface 32 (nodeV k t mm e a m c)) rfl (by kernel_rfl) (by kernel_rfl) (by kernel_rfl) (fun _ _ _ h => hp _ _ _ _ _ h) (Or.inl ⟨by rfl, ?_⟩) (by assumption) ?_
  · intro w hSw
    (try dsimp only at hSw)
    obtain ⟨f0, ⟨f1, f2, f3, f4, f5⟩, f6⟩ := HSof.out _ hSw
    go_simp
  (try simp only [Act.put, List.getElem_toArray, List.getElem_cons_zero, List.getElem_cons_succ, List.setIfInBounds_toArray, List.set_cons_zero, List.set_cons_succ])
  refine wpAnyH_ready (rs := [3, 6]) (by kernel_rfl) (by simp) ?_
  refine (AllReadyH.cons rfl (fun K hK => ?_) (AllReadyH.cons rfl (fun K hK => ?_) AllReadyH.nil))
  · go_simp
    refine (below_any k t mm e (.slice a m c) _ m c a rfl).mono ?_
    rintro r w1 ⟨rfl, hb1⟩
    have hB1 := hB0.trans (hb1.mono hB0.size)
    go_wp2_with fail
    refine hK.out _ _ hB1 (fun hHeld => ?_)
    clear hK K
    refine wpAnyH_ready (rs := [4, 6]) (by kernel_rfl) (by simp) ?_
    refine (AllReadyH.cons rfl (fun K hK => ?_) (AllReadyH.cons rfl (fun K hK => ?_) AllReadyH.nil))
    · go_simp
      refine (placeOf_any a m c _ ha hml).mono ?_
      rintro r w2 ⟨rfl, hb2⟩
      have hB2 := hB1.trans (hb2.mono hB1.size)
      go_wp2_with fail
      refine hK.out _ _ hB2 (fun hHeld => ?_)
      clear hK K
      unfold plV
      refine wpAnyH_take (i := 5) (v := (.agg #[.int .i64 p, .int .i64 q])) rfl (by kernel_rfl) (by kernel_rfl) (by kernel_rfl) (fun _ _ _ h => hp _ _ _ _ _ h) (Or.inl ⟨by rfl, ?_⟩) (by assumption) ?_
      · intro w hSw
        (try dsimp only at hSw)
        obtain ⟨f0, ⟨f1, f2, f3, f4, f5⟩, f6⟩ := HSof.out _ hSw
        go_simp
      (try simp only [Act.put, List.getElem_toArray, List.getElem_cons_zero, List.getElem_cons_succ, List.setIfInBounds_toArray, List.set_cons_zero, List.set_cons_succ])
      refine wpAnyH_ready (rs := [6]) (by kernel_rfl) (by simp) ?_
      refine (AllReadyH.cons rfl (fun K hK => ?_) AllReadyH.nil)
      · have RN := Row.new w2 [.int .i64 0, .int .i64 0] 49
        have hBA := hB2.alloc hB2.size (.cells #[.int .i64 0, .int .i64 0] 49)
        have hBg := hB2.size
        go_simp
        refine hK.out _ _ hBA (fun hHeld => ?_)
        clear hK K
        (try simp only [Act.put, List.getElem_toArray, List.getElem_cons_zero, List.getElem_cons_succ, List.setIfInBounds_toArray, List.set_cons_zero, List.set_cons_succ])
        obtain ⟨z0, z0f⟩ := RN 0 _ rfl
        obtain ⟨z1, z1f⟩ := RN 1 _ rfl
        have R1 := Row.new w2 [.int .i64 p, .int .i64 q] 49
        have hBs := hB2.alloc hB2.size (.cells #[.int .i64 p, .int .i64 q] 49)
        refine wpAnyH_ready (rs := [7]) (by kernel_rfl) (by simp) ?_
        refine (AllReadyH.cons rfl (fun K hK => ?_) AllReadyH.nil)
        · go_simp
          refine hK.out _ _ hBs (fun hHeld => ?_)
          clear hK K
          (try simp only [Act.put, List.getElem_toArray, List.getElem_cons_zero, List.getElem_cons_succ, List.setIfInBounds_toArray, List.set_cons_zero, List.set_cons_succ])
          refine wpAnyH_done (by kernel_rfl) ?_ _
          exact h _ _ _ _ _ _ _ _ hBg hBs R1
    · have RN := Row.new w1 [.int .i64 0, .int .i64 0] 49
      have hBA := hB1.alloc hB1.size (.cells #[.int .i64 0, .int .i64 0] 49)
      have hBg := hB1.size
      go_simp
      refine hK.out _ _ hBA (fun hHeld => ?_)
      clear hK K
      (try simp only [Act.put, List.getElem_toArray, List.getElem_cons_zero, List.getElem_cons_succ, List.setIfInBounds_toArray, List.set_cons_zero, List.set_cons_succ])
      refine wpAnyH_ready (rs := [4]) (by kernel_rfl) (by simp) ?_
      refine (AllReadyH.cons rfl (fun K hK => ?_) AllReadyH.nil)
      · go_simp
        refine (placeOf_any a m c _ ha hml).mono ?_
        rintro r w2 ⟨rfl, hb2⟩
        have hB2 := hBA.trans (hb2.mono hBA.size)
        go_wp2_with fail
        refine hK.out _ _ hB2 (fun hHeld => ?_)
        clear hK K
        unfold plV
        have R2 := RN.below hb2 RN.lt
        refine wpAnyH_take (i := 5) (v := (.agg #[.int .i64 p, .int .i64 q])) rfl (by kernel_rfl) (by kernel_rfl) (by kernel_rfl) (fun _ _ _ h => hp _ _ _ _ _ h) (Or.inl ⟨by rfl, ?_⟩) (by assumption) ?_
        · intro w hSw
          (try dsimp only at hSw)
          obtain ⟨f0, ⟨f1, f2, f3, f4, f5⟩, f6⟩ := HSof.out _ hSw
          go_simp
        (try simp only [Act.put, List.getElem_toArray, List.getElem_cons_zero, List.getElem_cons_succ, List.setIfInBounds_toArray, List.set_cons_zero, List.set_cons_succ])
        have R1 := (R2.set (i := 0) (by decide) (.int .i64 p)).set (i := 1) (by simp) (.int .i64 q)
        obtain ⟨z0, z0f⟩ := R2 0 _ rfl
        obtain ⟨z1, z1f⟩ := R2 1 _ rfl
        have hBs := (hB2.setCell (p := ⟨w1.heap.size, 0, none⟩) hBg (.int .i64 p)).setCell (p := ⟨w1.heap.size, 1, none⟩) hBg (.int .i64 q)
        refine wpAnyH_ready (rs := [7]) (by kernel_rfl) (by simp) ?_
        refine (AllReadyH.cons rfl (fun K hK => ?_) AllReadyH.nil)
        · go_simp
          refine hK.out _ _ hBs (fun hHeld => ?_)
          clear hK K
          (try simp only [Act.put, List.getElem_toArray, List.getElem_cons_zero, List.getElem_cons_succ, List.setIfInBounds_toArray, List.set_cons_zero, List.set_cons_succ])
          refine wpAnyH_done (by kernel_rfl) ?_ _
          exact h _ _ _ _ _ _ _ _ hBg hBs R1
  · have RN := Row.new W.drew [.int .i64 0, .int .i64 0] 49
    have hBA := hB0.alloc hB0.size (.cells #[.int .i64 0, .int .i64 0] 49)
    have hBg := hB0.size
    go_simp
    refine hK.out _ _ hBA (fun hHeld => ?_)
    clear hK K
    (try simp only [Act.put, List.getElem_toArray, List.getElem_cons_zero, List.getElem_cons_succ, List.setIfInBounds_toArray, List.set_cons_zero, List.set_cons_succ])
    have RN' : Row _ W.heap.size _ := RN
    refine wpAnyH_ready (rs := [3]) (by kernel_rfl) (by simp) ?_
    refine (AllReadyH.cons rfl (fun K hK => ?_) AllReadyH.nil)
    · go_simp
      refine (below_any k t mm e (.slice a m c) _ m c a rfl).mono ?_
      rintro r w1 ⟨rfl, hb1⟩
      have hB1 := hBA.trans (hb1.mono hBA.size)
      go_wp2_with fail
      refine hK.out _ _ hB1 (fun hHeld => ?_)
      clear hK K
      have R1' := RN'.below hb1 RN'.lt
      refine wpAnyH_ready (rs := [4]) (by kernel_rfl) (by simp) ?_
      refine (AllReadyH.cons rfl (fun K hK => ?_) AllReadyH.nil)
      · go_simp
        refine (placeOf_any a m c _ ha hml).mono ?_
        rintro r w2 ⟨rfl, hb2⟩
        have hB2 := hB1.trans (hb2.mono hB1.size)
        go_wp2_with fail
        refine hK.out _ _ hB2 (fun hHeld => ?_)
        clear hK K
        unfold plV
        have R2 := R1'.below hb2 R1'.lt
        refine wpAnyH_take (i := 5) (v := (.agg #[.int .i64 p, .int .i64 q])) rfl (by kernel_rfl) (by kernel_rfl) (by kernel_rfl) (fun _ _ _ h => hp _ _ _ _ _ h) (Or.inl ⟨by rfl, ?_⟩) (by assumption) ?_
        · intro w hSw
          (try dsimp only at hSw)
          obtain ⟨f0, ⟨f1, f2, f3, f4, f5⟩, f6⟩ := HSof.out _ hSw
          go_simp
        (try simp only [Act.put, List.getElem_toArray, List.getElem_cons_zero, List.getElem_cons_succ, List.setIfInBounds_toArray, List.set_cons_zero, List.set_cons_succ])
        have R1 := (R2.set (i := 0) (by decide) (.int .i64 p)).set (i := 1) (by simp) (.int .i64 q)
        obtain ⟨z0, z0f⟩ := R2 0 _ rfl
        obtain ⟨z1, z1f⟩ := R2 1 _ rfl
        have hBs := (hB2.setCell (p := ⟨W.heap.size, 0, none⟩) hBg (.int .i64 p)).setCell (p := ⟨W.heap.size, 1, none⟩) hBg (.int .i64 q)
        refine wpAnyH_ready (rs := [7]) (by kernel_rfl) (by simp) ?_
        refine (AllReadyH.cons rfl (fun K hK => ?_) AllReadyH.nil)
        · go_simp
          refine hK.out _ _ hBs (fun hHeld => ?_)
          clear hK K
          (try simp only [Act.put, List.getElem_toArray, List.getElem_cons_zero, List.getElem_cons_succ, List.setIfInBounds_toArray, List.set_cons_zero, List.set_cons_succ])
          refine wpAnyH_done (by kernel_rfl) ?_ _
          exact h _ _ _ _ _ _ _ _ hBg hBs R1
end Go.Proofs.Ytapdlnakbpociaa
