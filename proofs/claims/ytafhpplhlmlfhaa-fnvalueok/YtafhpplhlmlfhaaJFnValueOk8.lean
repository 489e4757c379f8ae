/- My own texts, joined: Yi Yj Yk Yl Ym Yn. -/
import Derived.Test.YtafhpplhlmlfhaaJFnValueOk7
import Derived.Test.YtafhpplhlmlfhaaJFnValueOk5
import Derived.Test.YtafhpplhlmlfhaaJFnValueOk4
/- How many values a value has, by the program: the region of a round that looks a list's extent up. -/
namespace Go.Proofs.Ytafhpplhlmlfhaa
open Go.RowKit
set_option maxRecDepth 100000 in
set_option maxHeartbeats 2000000 in
theorem ex8 {Q : Exit → Act → World → Prop} {l n : Nat} {t0 t1 t2 t4 t5 t6 t8 t9 t10 t11 t12 t13 t14 t15 t16 t17 t18 t19 t20 t21 t22 t23 t24 t25 t26 t27 t28 t29 t30 t31 t32 t33 t34 t35 t36 t37 t38 t39 t40 t41 t42 t43 t44 t45 t46 t47 t48 t49 t50 t51 t52 t53 t54 t55 t56 t57 t58 t59 t60 t61 t62 t63 t64 : Value} {W : World} {kb mb tb m c p q : Nat} {hd : Hd} {a : Option Addr} {L : List (Pl × Value)} {b : Bool}
    (hk : W.cell? ⟨kb, 0, none⟩ = some (.map (some mb))) (hT : (W.cell? ⟨tb, 0, none⟩ = some (.int .i64 hd.k) ∧ W.cell? ⟨tb, 1, none⟩ = some (.int .i64 hd.m) ∧ W.cell? ⟨tb, 2, none⟩ = some (.int .i64 hd.e) ∧ W.cell? ⟨tb, 3, none⟩ = some (.string hd.t) ∧ W.cell? ⟨tb, 4, none⟩ = some (.slice a m c) ∧ W.cell? ⟨tb, 5, none⟩ = some (.slice hd.na hd.ns.length hd.nc))) (hm : plKeysV.Is W mb L) (hok : PlOk W (plOf a m)) (hoks : ∀ q ∈ L, PlOk W q.1) (ha : m = 0 ∨ ∃ b o, a = some ⟨b, o, none⟩) (hml : m ≤ 2000000) (hg : (getL (plOf a m) L).getD (.agg #[.int .i64 0, .int .i64 0]) = (.agg #[.int .i64 p, .int .i64 q])) (hb : (getL (plOf a m) L).isSome = b)
    (hp : ∀ p d v a w, Q (.panic p) (Act.put a d v) w → Q (.panic p) a w) (h : ∀ ws B v21 v22 v23 v24 v25 v26 v27 v28 v29, W.heap.size ≤ B → Below W.heap.size W ws → Row ws B [.int .i64 p, .int .i64 q] → Q .normal { tmps := (t0 :: t1 :: t2 :: (.pointer (some ⟨kb, 0, none⟩)) :: t4 :: t5 :: t6 :: (.pointer (some ⟨tb, 0, none⟩)) :: (.pointer (some ⟨B, 0, none⟩)) :: (.bool b) :: t10 :: t11 :: t12 :: t13 :: t14 :: t15 :: t16 :: t17 :: t18 :: t19 :: t20 :: v21 :: v22 :: v23 :: v24 :: v25 :: v26 :: v27 :: v28 :: v29 :: t30 :: t31 :: t32 :: t33 :: t34 :: t35 :: t36 :: t37 :: t38 :: t39 :: t40 :: t41 :: t42 :: t43 :: t44 :: t45 :: t46 :: t47 :: t48 :: t49 :: t50 :: t51 :: t52 :: t53 :: t54 :: t55 :: t56 :: t57 :: t58 :: t59 :: t60 :: t61 :: t62 :: t63 :: t64 :: []).toArray, defers := [] } ws) :
    Code.wpIn (Fence.wide.inRound l) n Try.prog (Code.region 8 #[{ dst := some 22, op := Op.load 77 (Operand.tmp 3), type := 77, pos := "l3_tree.go:298", after := #[], guard := none }, { dst := some 23, op := Op.load 28 (Operand.tmp 7), type := 28, pos := "l3_tree.go:298", after := #[], guard := none }, { dst := some 24, op := Op.makeInterface 28 (Operand.tmp 23), type := 20, pos := "l3_tree.go:298", after := #[{ on := 1, ground := Ground.data }], guard := none }, { dst := some 25, op := Op.call { callee := Callee.invoke (Operand.tmp 24) "loop.example/chancery/impl.below", args := #[], argTypes := #[] }, type := 25, pos := "l3_tree.go:298", after := #[{ on := 2, ground := Ground.data }], guard := none }, { dst := some 26, op := Op.call { callee := Callee.value (Operand.func 51), args := #[Operand.tmp 25], argTypes := #[25] }, type := 84, pos := "l3_tree.go:298", after := #[{ on := 3, ground := Ground.data }, { on := 3, ground := Ground.chain }], guard := none }, { dst := some 27, op := Op.lookup 77 (Operand.tmp 22) (Operand.tmp 26) true, type := 81, pos := "l3_tree.go:298", after := #[{ on := 0, ground := Ground.data }, { on := 4, ground := Ground.data }], guard := none }, { dst := some 21, op := Op.move (Operand.tmp 27), type := 81, pos := "l3_tree.go:298", after := #[{ on := 5, ground := Ground.data }], guard := none }, { dst := some 28, op := Op.extract (Operand.tmp 21) 0, type := 49, pos := "l3_tree.go:298", after := #[{ on := 6, ground := Ground.data }], guard := none }, { dst := some 29, op := Op.extract (Operand.tmp 21) 1, type := 4, pos := "l3_tree.go:298", after := #[{ on := 6, ground := Ground.data }, { on := 10, ground := Ground.gcOnly Departure.lateStores }], guard := none }, { dst := some 8, op := Op.alloc 49, type := 0, pos := "l3_tree.go:298", after := #[], guard := none }, { dst := none, op := Op.store 49 (Operand.tmp 8) (Operand.tmp 28), type := 0, pos := "l3_tree.go:298", after := #[{ on := 9, ground := Ground.data }, { on := 7, ground := Ground.data }, { on := 4, ground := Ground.chain }, { on := 0, ground := Ground.phase }, { on := 1, ground := Ground.phase }, { on := 2, ground := Ground.phase }, { on := 3, ground := Ground.phase }, { on := 4, ground := Ground.phase }, { on := 5, ground := Ground.phase }, { on := 6, ground := Ground.phase }, { on := 7, ground := Ground.phase }, { on := 8, ground := Ground.textOnly Departure.lateStores }, { on := 9, ground := Ground.phase }], guard := none }, { dst := some 9, op := Op.assign (Operand.tmp 29), type := 4, pos := "l3_tree.go:298", after := #[{ on := 8, ground := Ground.data }, { on := 10, ground := Ground.chain }, { on := 0, ground := Ground.phase }, { on := 1, ground := Ground.phase }, { on := 2, ground := Ground.phase }, { on := 3, ground := Ground.phase }, { on := 4, ground := Ground.phase }, { on := 5, ground := Ground.phase }, { on := 6, ground := Ground.phase }, { on := 7, ground := Ground.phase }, { on := 8, ground := Ground.phase }, { on := 9, ground := Ground.phase }, { on := 10, ground := Ground.phase }], guard := none }] true) Q { tmps := (t0 :: t1 :: t2 :: (.pointer (some ⟨kb, 0, none⟩)) :: t4 :: t5 :: t6 :: (.pointer (some ⟨tb, 0, none⟩)) :: t8 :: t9 :: t10 :: t11 :: t12 :: t13 :: t14 :: t15 :: t16 :: t17 :: t18 :: t19 :: t20 :: t21 :: t22 :: t23 :: t24 :: t25 :: t26 :: t27 :: t28 :: t29 :: t30 :: t31 :: t32 :: t33 :: t34 :: t35 :: t36 :: t37 :: t38 :: t39 :: t40 :: t41 :: t42 :: t43 :: t44 :: t45 :: t46 :: t47 :: t48 :: t49 :: t50 :: t51 :: t52 :: t53 :: t54 :: t55 :: t56 :: t57 :: t58 :: t59 :: t60 :: t61 :: t62 :: t63 :: t64 :: []).toArray, defers := [] } W := by
  have hmeth := belowV_method
  have hB0 := (Below.refl W.heap.size W).drew
  have HSof : Hid (∀ w', Below W.heap.size W w' → w'.cell? ⟨kb, 0, none⟩ = some (.map (some mb)) ∧ (w'.cell? ⟨tb, 0, none⟩ = some (.int .i64 hd.k) ∧ w'.cell? ⟨tb, 1, none⟩ = some (.int .i64 hd.m) ∧ w'.cell? ⟨tb, 2, none⟩ = some (.int .i64 hd.e) ∧ w'.cell? ⟨tb, 3, none⟩ = some (.string hd.t) ∧ w'.cell? ⟨tb, 4, none⟩ = some (.slice a m c) ∧ w'.cell? ⟨tb, 5, none⟩ = some (.slice hd.na hd.ns.length hd.nc)) ∧ (Instr.lookup 77 (.map (some mb)) (.agg #[.pointer (plOf a m).1, .int .i64 (plOf a m).2]) true).run Try.prog w' = .ok (.tuple #[(.agg #[.int .i64 p, .int .i64 q]), .bool b]) w') := fun w' h => by
    have hk1 := World.block_lt_of_cell? _ _ hk
    have ht1 := World.block_lt_of_cell? _ _ hT.1
    have hmlt : mb < W.heap.size := by obtain ⟨es, clock, h, _⟩ := hm; exact (Array.getElem?_eq_some_iff.1 h).1
    have hz : (zeroValue 49).run Try.prog w' = .ok (.agg #[.int .i64 0, .int .i64 0]) w' := by kernel_rfl
    have hl := plKeysV.look2 (mty := 77) (et := 49) Try.underlying77 (plOf a m) (hok.below h) (fun q hq => (hoks q hq).below h) (hm.grown _ (h.block _ hmlt)) hz
    rw [hg, hb] at hl
    exact ⟨(h.cell (p := ⟨kb, 0, none⟩) hk1).trans hk, ⟨(h.cell (p := ⟨tb, 0, none⟩) ht1).trans hT.1, (h.cell (p := ⟨tb, 1, none⟩) ht1).trans hT.2.1, (h.cell (p := ⟨tb, 2, none⟩) ht1).trans hT.2.2.1, (h.cell (p := ⟨tb, 3, none⟩) ht1).trans hT.2.2.2.1, (h.cell (p := ⟨tb, 4, none⟩) ht1).trans hT.2.2.2.2.1, (h.cell (p := ⟨tb, 5, none⟩) ht1).trans hT.2.2.2.2.2⟩, hl⟩
  clear hk hT hm hok hoks hg hb
  refine wpIn_region_round2 (S := fun w' => Below W.heap.size W w') (by kernel_rfl) (by kernel_rfl) hB0 (fun hHeld => ?_)
  refine wpAnyH_take (i := 0) (v := .map (some mb)) rfl (by kernel_rfl) (by kernel_rfl) (by kernel_rfl) (fun _ _ _ h => ⟨h.1, hp _ _ _ _ _ h.2⟩) (Or.inl ⟨by rfl, ?_⟩) (by assumption) ?_
  · intro w hSw
    (try dsimp only at hSw)
    obtain ⟨f0, ⟨f1, f2, f3, f4, f5, f5b⟩, f6⟩ := HSof.out _ hSw
    go_simp
  (try simp only [Act.put, List.getElem_toArray, List.getElem_cons_zero, List.setIfInBounds_toArray, List.set_cons_zero, List.set_cons_succ])
  refine wpAnyH_take (i := 1) (v := valV hd a m c) rfl (by kernel_rfl) (by kernel_rfl) (by kernel_rfl) (fun _ _ _ h => ⟨h.1, hp _ _ _ _ _ h.2⟩) (Or.inl ⟨by rfl, ?_⟩) (by assumption) ?_
  · intro w hSw
    (try dsimp only at hSw)
    obtain ⟨f0, ⟨f1, f2, f3, f4, f5, f5b⟩, f6⟩ := HSof.out _ hSw
    go_simp
  (try simp only [Act.put, List.getElem_toArray, List.getElem_cons_zero, List.getElem_cons_succ, List.setIfInBounds_toArray, List.set_cons_zero, List.set_cons_succ])
  refine wpAnyH_take (i := 2) (v := .iface 28 (valV hd a m c)) rfl (by kernel_rfl) (by kernel_rfl) (by kernel_rfl) (fun _ _ _ h => ⟨h.1, hp _ _ _ _ _ h.2⟩) (Or.inl ⟨by rfl, ?_⟩) (by assumption) ?_
  · intro w hSw
    (try dsimp only at hSw)
    obtain ⟨f0, ⟨f1, f2, f3, f4, f5, f5b⟩, f6⟩ := HSof.out _ hSw
    go_simp
  (try simp only [Act.put, List.getElem_toArray, List.getElem_cons_zero, List.getElem_cons_succ, List.setIfInBounds_toArray, List.set_cons_zero, List.set_cons_succ])
  refine wpAnyH_ready (rs := [3, 9]) (by kernel_rfl) (by simp) ?_
  refine (AllReadyH.cons rfl (fun K hK => ?_) (AllReadyH.cons rfl (fun K hK => ?_) AllReadyH.nil))
  · go_simp
    refine (belowV_any hd a m c _).mono ?_
    rintro r w1 ⟨rfl, hb1⟩
    have hB1 := hB0.trans (hb1.mono hB0.size)
    go_wp2_with fail
    refine hK.out _ _ hB1 (fun hHeld => ?_)
    clear hK K
    refine wpAnyH_ready (rs := [4, 9]) (by kernel_rfl) (by simp) ?_
    refine (AllReadyH.cons rfl (fun K hK => ?_) (AllReadyH.cons rfl (fun K hK => ?_) AllReadyH.nil))
    · go_simp
      refine (placeOfV_any a m c _ ha hml).mono ?_
      rintro r w2 ⟨rfl, hb2⟩
      have hB2 := hB1.trans (hb2.mono hB1.size)
      go_wp2_with fail
      refine hK.out _ _ hB2 (fun hHeld => ?_)
      clear hK K
      unfold plV
      refine wpAnyH_take (i := 5) (v := .tuple #[(.agg #[.int .i64 p, .int .i64 q]), .bool b]) rfl (by kernel_rfl) (by kernel_rfl) (by kernel_rfl) (fun _ _ _ h => ⟨h.1, hp _ _ _ _ _ h.2⟩) (Or.inl ⟨by rfl, ?_⟩) (by assumption) ?_
      · intro w hSw
        (try dsimp only at hSw)
        obtain ⟨f0, ⟨f1, f2, f3, f4, f5, f5b⟩, f6⟩ := HSof.out _ hSw
        go_simp
      (try simp only [Act.put, List.getElem_toArray, List.getElem_cons_zero, List.getElem_cons_succ, List.setIfInBounds_toArray, List.set_cons_zero, List.set_cons_succ])
      refine wpAnyH_take (i := 6) (v := .tuple #[(.agg #[.int .i64 p, .int .i64 q]), .bool b]) rfl (by kernel_rfl) (by kernel_rfl) (by kernel_rfl) (fun _ _ _ h => ⟨h.1, hp _ _ _ _ _ h.2⟩) (Or.inl ⟨by rfl, ?_⟩) (by assumption) ?_
      · intro w hSw
        (try dsimp only at hSw)
        obtain ⟨f0, ⟨f1, f2, f3, f4, f5, f5b⟩, f6⟩ := HSof.out _ hSw
        go_simp
      (try simp only [Act.put, List.getElem_toArray, List.getElem_cons_zero, List.getElem_cons_succ, List.setIfInBounds_toArray, List.set_cons_zero, List.set_cons_succ])
      refine wpAnyH_take (i := 7) (v := (.agg #[.int .i64 p, .int .i64 q])) rfl (by kernel_rfl) (by kernel_rfl) (by kernel_rfl) (fun _ _ _ h => ⟨h.1, hp _ _ _ _ _ h.2⟩) (Or.inl ⟨by rfl, ?_⟩) (by assumption) ?_
      · intro w hSw
        (try dsimp only at hSw)
        obtain ⟨f0, ⟨f1, f2, f3, f4, f5, f5b⟩, f6⟩ := HSof.out _ hSw
        go_simp
      (try simp only [Act.put, List.getElem_toArray, List.getElem_cons_zero, List.getElem_cons_succ, List.setIfInBounds_toArray, List.set_cons_zero, List.set_cons_succ])
      refine wpAnyH_take (i := 8) (v := .bool b) rfl (by kernel_rfl) (by kernel_rfl) (by kernel_rfl) (fun _ _ _ h => ⟨h.1, hp _ _ _ _ _ h.2⟩) (Or.inl ⟨by rfl, ?_⟩) (by assumption) ?_
      · intro w hSw
        (try dsimp only at hSw)
        obtain ⟨f0, ⟨f1, f2, f3, f4, f5, f5b⟩, f6⟩ := HSof.out _ hSw
        go_simp
      (try simp only [Act.put, List.getElem_toArray, List.getElem_cons_zero, List.getElem_cons_succ, List.setIfInBounds_toArray, List.set_cons_zero, List.set_cons_succ])
      refine wpAnyH_ready (rs := [9]) (by kernel_rfl) (by simp) ?_
      refine (AllReadyH.cons rfl (fun K hK => ?_) AllReadyH.nil)
      · have RN := Row.new w2 [.int .i64 0, .int .i64 0] 49
        have hBA := hB2.alloc hB2.size (.cells #[.int .i64 0, .int .i64 0] 49)
        have hBg := hB2.size
        go_simp
        refine hK.out _ _ hBA (fun hHeld => ?_)
        clear hK K
        (try simp only [Act.put, List.getElem_toArray, List.getElem_cons_zero, List.getElem_cons_succ, List.setIfInBounds_toArray, List.set_cons_zero, List.set_cons_succ])
        obtain ⟨z0, z0f⟩ := RN 0 _ rfl
        obtain ⟨z1, z1f⟩ := RN 1 _ rfl
        have R1 := Row.new w2 [.int .i64 p, .int .i64 q] 49
        have hBs := hB2.alloc hB2.size (.cells #[.int .i64 p, .int .i64 q] 49)
        refine wpAnyH_ready (rs := [10]) (by kernel_rfl) (by simp) ?_
        refine (AllReadyH.cons rfl (fun K hK => ?_) AllReadyH.nil)
        · go_simp
          refine hK.out _ _ hBs (fun hHeld => ?_)
          clear hK K
          (try simp only [Act.put, List.getElem_toArray, List.getElem_cons_zero, List.getElem_cons_succ, List.setIfInBounds_toArray, List.set_cons_zero, List.set_cons_succ])
          refine wpAnyH_take (i := 11) (v := .bool b) rfl (by kernel_rfl) (by kernel_rfl) (by kernel_rfl) (fun _ _ _ h => ⟨h.1, hp _ _ _ _ _ h.2⟩) (Or.inl ⟨by rfl, ?_⟩) (by assumption) ?_
          · intro w hSw
            (try dsimp only at hSw)
            obtain ⟨f0, ⟨f1, f2, f3, f4, f5, f5b⟩, f6⟩ := HSof.out _ hSw
            go_simp
          (try simp only [Act.put, List.getElem_toArray, List.getElem_cons_zero, List.getElem_cons_succ, List.setIfInBounds_toArray, List.set_cons_zero, List.set_cons_succ])
          refine wpAnyH_done (by kernel_rfl) ?_ _
          exact ⟨(fun e => by cases e), h _ _ _ _ _ _ _ _ _ _ _ hBg hBs R1⟩
    · have RN := Row.new w1 [.int .i64 0, .int .i64 0] 49
      have hBA := hB1.alloc hB1.size (.cells #[.int .i64 0, .int .i64 0] 49)
      have hBg := hB1.size
      go_simp
      refine hK.out _ _ hBA (fun hHeld => ?_)
      clear hK K
      (try simp only [Act.put, List.getElem_toArray, List.getElem_cons_zero, List.getElem_cons_succ, List.setIfInBounds_toArray, List.set_cons_zero, List.set_cons_succ])
      refine wpAnyH_ready (rs := [4]) (by kernel_rfl) (by simp) ?_
      refine (AllReadyH.cons rfl (fun K hK => ?_) AllReadyH.nil)
      · go_simp
        refine (placeOfV_any a m c _ ha hml).mono ?_
        rintro r w2 ⟨rfl, hb2⟩
        have hB2 := hBA.trans (hb2.mono hBA.size)
        go_wp2_with fail
        refine hK.out _ _ hB2 (fun hHeld => ?_)
        clear hK K
        unfold plV
        have R2 := RN.below hb2 RN.lt
        refine wpAnyH_take (i := 5) (v := .tuple #[(.agg #[.int .i64 p, .int .i64 q]), .bool b]) rfl (by kernel_rfl) (by kernel_rfl) (by kernel_rfl) (fun _ _ _ h => ⟨h.1, hp _ _ _ _ _ h.2⟩) (Or.inl ⟨by rfl, ?_⟩) (by assumption) ?_
        · intro w hSw
          (try dsimp only at hSw)
          obtain ⟨f0, ⟨f1, f2, f3, f4, f5, f5b⟩, f6⟩ := HSof.out _ hSw
          go_simp
        (try simp only [Act.put, List.getElem_toArray, List.getElem_cons_zero, List.getElem_cons_succ, List.setIfInBounds_toArray, List.set_cons_zero, List.set_cons_succ])
        refine wpAnyH_take (i := 6) (v := .tuple #[(.agg #[.int .i64 p, .int .i64 q]), .bool b]) rfl (by kernel_rfl) (by kernel_rfl) (by kernel_rfl) (fun _ _ _ h => ⟨h.1, hp _ _ _ _ _ h.2⟩) (Or.inl ⟨by rfl, ?_⟩) (by assumption) ?_
        · intro w hSw
          (try dsimp only at hSw)
          obtain ⟨f0, ⟨f1, f2, f3, f4, f5, f5b⟩, f6⟩ := HSof.out _ hSw
          go_simp
        (try simp only [Act.put, List.getElem_toArray, List.getElem_cons_zero, List.getElem_cons_succ, List.setIfInBounds_toArray, List.set_cons_zero, List.set_cons_succ])
        refine wpAnyH_take (i := 7) (v := (.agg #[.int .i64 p, .int .i64 q])) rfl (by kernel_rfl) (by kernel_rfl) (by kernel_rfl) (fun _ _ _ h => ⟨h.1, hp _ _ _ _ _ h.2⟩) (Or.inl ⟨by rfl, ?_⟩) (by assumption) ?_
        · intro w hSw
          (try dsimp only at hSw)
          obtain ⟨f0, ⟨f1, f2, f3, f4, f5, f5b⟩, f6⟩ := HSof.out _ hSw
          go_simp
        (try simp only [Act.put, List.getElem_toArray, List.getElem_cons_zero, List.getElem_cons_succ, List.setIfInBounds_toArray, List.set_cons_zero, List.set_cons_succ])
        refine wpAnyH_take (i := 8) (v := .bool b) rfl (by kernel_rfl) (by kernel_rfl) (by kernel_rfl) (fun _ _ _ h => ⟨h.1, hp _ _ _ _ _ h.2⟩) (Or.inl ⟨by rfl, ?_⟩) (by assumption) ?_
        · intro w hSw
          (try dsimp only at hSw)
          obtain ⟨f0, ⟨f1, f2, f3, f4, f5, f5b⟩, f6⟩ := HSof.out _ hSw
          go_simp
        (try simp only [Act.put, List.getElem_toArray, List.getElem_cons_zero, List.getElem_cons_succ, List.setIfInBounds_toArray, List.set_cons_zero, List.set_cons_succ])
        have R1 := (R2.set (i := 0) (by decide) (.int .i64 p)).set (i := 1) (by simp) (.int .i64 q)
        obtain ⟨z0, z0f⟩ := R2 0 _ rfl
        obtain ⟨z1, z1f⟩ := R2 1 _ rfl
        have hBs := (hB2.setCell (p := ⟨w1.heap.size, 0, none⟩) hBg (.int .i64 p)).setCell (p := ⟨w1.heap.size, 1, none⟩) hBg (.int .i64 q)
        refine wpAnyH_ready (rs := [10]) (by kernel_rfl) (by simp) ?_
        refine (AllReadyH.cons rfl (fun K hK => ?_) AllReadyH.nil)
        · go_simp
          refine hK.out _ _ hBs (fun hHeld => ?_)
          clear hK K
          (try simp only [Act.put, List.getElem_toArray, List.getElem_cons_zero, List.getElem_cons_succ, List.setIfInBounds_toArray, List.set_cons_zero, List.set_cons_succ])
          refine wpAnyH_take (i := 11) (v := .bool b) rfl (by kernel_rfl) (by kernel_rfl) (by kernel_rfl) (fun _ _ _ h => ⟨h.1, hp _ _ _ _ _ h.2⟩) (Or.inl ⟨by rfl, ?_⟩) (by assumption) ?_
          · intro w hSw
            (try dsimp only at hSw)
            obtain ⟨f0, ⟨f1, f2, f3, f4, f5, f5b⟩, f6⟩ := HSof.out _ hSw
            go_simp
          (try simp only [Act.put, List.getElem_toArray, List.getElem_cons_zero, List.getElem_cons_succ, List.setIfInBounds_toArray, List.set_cons_zero, List.set_cons_succ])
          refine wpAnyH_done (by kernel_rfl) ?_ _
          exact ⟨(fun e => by cases e), h _ _ _ _ _ _ _ _ _ _ _ hBg hBs R1⟩
  · have RN := Row.new W.drew [.int .i64 0, .int .i64 0] 49
    have hBA := hB0.alloc hB0.size (.cells #[.int .i64 0, .int .i64 0] 49)
    have hBg := hB0.size
    go_simp
    refine hK.out _ _ hBA (fun hHeld => ?_)
    clear hK K
    (try simp only [Act.put, List.getElem_toArray, List.getElem_cons_zero, List.getElem_cons_succ, List.setIfInBounds_toArray, List.set_cons_zero, List.set_cons_succ])
    have RN' : Row _ W.heap.size _ := RN
    refine wpAnyH_ready (rs := [3]) (by kernel_rfl) (by simp) ?_
    refine (AllReadyH.cons rfl (fun K hK => ?_) AllReadyH.nil)
    · go_simp
      refine (belowV_any hd a m c _).mono ?_
      rintro r w1 ⟨rfl, hb1⟩
      have hB1 := hBA.trans (hb1.mono hBA.size)
      go_wp2_with fail
      refine hK.out _ _ hB1 (fun hHeld => ?_)
      clear hK K
      have R1' := RN'.below hb1 RN'.lt
      refine wpAnyH_ready (rs := [4]) (by kernel_rfl) (by simp) ?_
      refine (AllReadyH.cons rfl (fun K hK => ?_) AllReadyH.nil)
      · go_simp
        refine (placeOfV_any a m c _ ha hml).mono ?_
        rintro r w2 ⟨rfl, hb2⟩
        have hB2 := hB1.trans (hb2.mono hB1.size)
        go_wp2_with fail
        refine hK.out _ _ hB2 (fun hHeld => ?_)
        clear hK K
        unfold plV
        have R2 := R1'.below hb2 R1'.lt
        refine wpAnyH_take (i := 5) (v := .tuple #[(.agg #[.int .i64 p, .int .i64 q]), .bool b]) rfl (by kernel_rfl) (by kernel_rfl) (by kernel_rfl) (fun _ _ _ h => ⟨h.1, hp _ _ _ _ _ h.2⟩) (Or.inl ⟨by rfl, ?_⟩) (by assumption) ?_
        · intro w hSw
          (try dsimp only at hSw)
          obtain ⟨f0, ⟨f1, f2, f3, f4, f5, f5b⟩, f6⟩ := HSof.out _ hSw
          go_simp
        (try simp only [Act.put, List.getElem_toArray, List.getElem_cons_zero, List.getElem_cons_succ, List.setIfInBounds_toArray, List.set_cons_zero, List.set_cons_succ])
        refine wpAnyH_take (i := 6) (v := .tuple #[(.agg #[.int .i64 p, .int .i64 q]), .bool b]) rfl (by kernel_rfl) (by kernel_rfl) (by kernel_rfl) (fun _ _ _ h => ⟨h.1, hp _ _ _ _ _ h.2⟩) (Or.inl ⟨by rfl, ?_⟩) (by assumption) ?_
        · intro w hSw
          (try dsimp only at hSw)
          obtain ⟨f0, ⟨f1, f2, f3, f4, f5, f5b⟩, f6⟩ := HSof.out _ hSw
          go_simp
        (try simp only [Act.put, List.getElem_toArray, List.getElem_cons_zero, List.getElem_cons_succ, List.setIfInBounds_toArray, List.set_cons_zero, List.set_cons_succ])
        refine wpAnyH_take (i := 7) (v := (.agg #[.int .i64 p, .int .i64 q])) rfl (by kernel_rfl) (by kernel_rfl) (by kernel_rfl) (fun _ _ _ h => ⟨h.1, hp _ _ _ _ _ h.2⟩) (Or.inl ⟨by rfl, ?_⟩) (by assumption) ?_
        · intro w hSw
          (try dsimp only at hSw)
          obtain ⟨f0, ⟨f1, f2, f3, f4, f5, f5b⟩, f6⟩ := HSof.out _ hSw
          go_simp
        (try simp only [Act.put, List.getElem_toArray, List.getElem_cons_zero, List.getElem_cons_succ, List.setIfInBounds_toArray, List.set_cons_zero, List.set_cons_succ])
        refine wpAnyH_take (i := 8) (v := .bool b) rfl (by kernel_rfl) (by kernel_rfl) (by kernel_rfl) (fun _ _ _ h => ⟨h.1, hp _ _ _ _ _ h.2⟩) (Or.inl ⟨by rfl, ?_⟩) (by assumption) ?_
        · intro w hSw
          (try dsimp only at hSw)
          obtain ⟨f0, ⟨f1, f2, f3, f4, f5, f5b⟩, f6⟩ := HSof.out _ hSw
          go_simp
        (try simp only [Act.put, List.getElem_toArray, List.getElem_cons_zero, List.getElem_cons_succ, List.setIfInBounds_toArray, List.set_cons_zero, List.set_cons_succ])
        have R1 := (R2.set (i := 0) (by decide) (.int .i64 p)).set (i := 1) (by simp) (.int .i64 q)
        obtain ⟨z0, z0f⟩ := R2 0 _ rfl
        obtain ⟨z1, z1f⟩ := R2 1 _ rfl
        have hBs := (hB2.setCell (p := ⟨W.heap.size, 0, none⟩) hBg (.int .i64 p)).setCell (p := ⟨W.heap.size, 1, none⟩) hBg (.int .i64 q)
        refine wpAnyH_ready (rs := [10]) (by kernel_rfl) (by simp) ?_
        refine (AllReadyH.cons rfl (fun K hK => ?_) AllReadyH.nil)
        · go_simp
          refine hK.out _ _ hBs (fun hHeld => ?_)
          clear hK K
          (try simp only [Act.put, List.getElem_toArray, List.getElem_cons_zero, List.getElem_cons_succ, List.setIfInBounds_toArray, List.set_cons_zero, List.set_cons_succ])
          refine wpAnyH_take (i := 11) (v := .bool b) rfl (by kernel_rfl) (by kernel_rfl) (by kernel_rfl) (fun _ _ _ h => ⟨h.1, hp _ _ _ _ _ h.2⟩) (Or.inl ⟨by rfl, ?_⟩) (by assumption) ?_
          · intro w hSw
            (try dsimp only at hSw)
            obtain ⟨f0, ⟨f1, f2, f3, f4, f5, f5b⟩, f6⟩ := HSof.out _ hSw
            go_simp
          (try simp only [Act.put, List.getElem_toArray, List.getElem_cons_zero, List.getElem_cons_succ, List.setIfInBounds_toArray, List.set_cons_zero, List.set_cons_succ])
          refine wpAnyH_done (by kernel_rfl) ?_ _
          exact ⟨(fun e => by cases e), h _ _ _ _ _ _ _ _ _ _ _ hBg hBs R1⟩
end Go.Proofs.Ytafhpplhlmlfhaa
/- How many values a value has, by the program: the regions behind the range. -/
namespace Go.Proofs.Ytafhpplhlmlfhaa
open Go.RowKit
set_option maxRecDepth 100000 in
set_option maxHeartbeats 2000000 in
theorem ex15 {ds : List Deferred} {Q : Exit → Act → World → Prop} {t0 t2 t4 t5 t6 t7 t8 t9 t10 t11 t12 t13 t14 t15 t16 t17 t18 t19 t20 t21 t22 t23 t24 t25 t26 t27 t28 t29 t30 t31 t32 t33 t34 t35 t36 t37 t38 t39 t40 t41 t42 t43 t44 t45 t46 t47 t48 t49 t50 t51 t52 t53 t54 t55 t56 t57 t58 t59 t60 t61 t62 t63 t64 : Value} {W : World} {kb mb tb m c p q : Nat} {hd : Hd} {a : Option Addr} {L : List (Pl × Value)}
    (hk : W.cell? ⟨kb, 0, none⟩ = some (.map (some mb))) (hT : (W.cell? ⟨tb, 0, none⟩ = some (.int .i64 hd.k) ∧ W.cell? ⟨tb, 1, none⟩ = some (.int .i64 hd.m) ∧ W.cell? ⟨tb, 2, none⟩ = some (.int .i64 hd.e) ∧ W.cell? ⟨tb, 3, none⟩ = some (.string hd.t) ∧ W.cell? ⟨tb, 4, none⟩ = some (.slice a m c) ∧ W.cell? ⟨tb, 5, none⟩ = some (.slice hd.na hd.ns.length hd.nc))) (hm : plKeysV.Is W mb L) (hok : PlOk W (plOf a m)) (hoks : ∀ q ∈ L, PlOk W q.1) (ha : m = 0 ∨ ∃ b o, a = some ⟨b, o, none⟩) (hml : m ≤ 2000000) (hg : (getL (plOf a m) L).getD (.agg #[.int .i64 0, .int .i64 0]) = (.agg #[.int .i64 p, .int .i64 q]))
    (hp : ∀ p d v a w, Q (.panic p) (Act.put a d v) w → Q (.panic p) a w) (h : ∀ ws B v52 v53 v54 v55 v56 v57, W.heap.size ≤ B → Below W.heap.size W ws → Row ws B [.int .i64 p, .int .i64 q] → Q .normal { tmps := (t0 :: (.pointer (some ⟨tb, 0, none⟩)) :: t2 :: (.pointer (some ⟨kb, 0, none⟩)) :: t4 :: t5 :: t6 :: t7 :: t8 :: t9 :: (.pointer (some ⟨B, 0, none⟩)) :: t11 :: t12 :: t13 :: t14 :: t15 :: t16 :: t17 :: t18 :: t19 :: t20 :: t21 :: t22 :: t23 :: t24 :: t25 :: t26 :: t27 :: t28 :: t29 :: t30 :: t31 :: t32 :: t33 :: t34 :: t35 :: t36 :: t37 :: t38 :: t39 :: t40 :: t41 :: t42 :: t43 :: t44 :: t45 :: t46 :: t47 :: t48 :: t49 :: t50 :: t51 :: v52 :: v53 :: v54 :: v55 :: v56 :: v57 :: t58 :: t59 :: t60 :: t61 :: t62 :: t63 :: t64 :: []).toArray, defers := ds } ws) :
    Code.wp Try.prog (Code.region 15 #[{ dst := some 52, op := Op.load 77 (Operand.tmp 3), type := 77, pos := "l3_tree.go:307", after := #[], guard := none }, { dst := some 53, op := Op.load 28 (Operand.tmp 1), type := 28, pos := "l3_tree.go:307", after := #[], guard := none }, { dst := some 54, op := Op.makeInterface 28 (Operand.tmp 53), type := 20, pos := "l3_tree.go:307", after := #[{ on := 1, ground := Ground.data }], guard := none }, { dst := some 55, op := Op.call { callee := Callee.invoke (Operand.tmp 54) "loop.example/chancery/impl.below", args := #[], argTypes := #[] }, type := 25, pos := "l3_tree.go:307", after := #[{ on := 2, ground := Ground.data }], guard := none }, { dst := some 56, op := Op.call { callee := Callee.value (Operand.func 51), args := #[Operand.tmp 55], argTypes := #[25] }, type := 84, pos := "l3_tree.go:307", after := #[{ on := 3, ground := Ground.data }, { on := 3, ground := Ground.chain }], guard := none }, { dst := some 57, op := Op.lookup 77 (Operand.tmp 52) (Operand.tmp 56) false, type := 49, pos := "l3_tree.go:307", after := #[{ on := 0, ground := Ground.data }, { on := 4, ground := Ground.data }], guard := none }, { dst := some 10, op := Op.alloc 49, type := 0, pos := "l3_tree.go:307", after := #[], guard := none }, { dst := none, op := Op.store 49 (Operand.tmp 10) (Operand.tmp 57), type := 0, pos := "l3_tree.go:307", after := #[{ on := 6, ground := Ground.data }, { on := 5, ground := Ground.data }, { on := 4, ground := Ground.chain }, { on := 0, ground := Ground.phase }, { on := 1, ground := Ground.phase }, { on := 2, ground := Ground.phase }, { on := 3, ground := Ground.phase }, { on := 4, ground := Ground.phase }, { on := 5, ground := Ground.phase }, { on := 6, ground := Ground.phase }], guard := none }] true) Q { tmps := (t0 :: (.pointer (some ⟨tb, 0, none⟩)) :: t2 :: (.pointer (some ⟨kb, 0, none⟩)) :: t4 :: t5 :: t6 :: t7 :: t8 :: t9 :: t10 :: t11 :: t12 :: t13 :: t14 :: t15 :: t16 :: t17 :: t18 :: t19 :: t20 :: t21 :: t22 :: t23 :: t24 :: t25 :: t26 :: t27 :: t28 :: t29 :: t30 :: t31 :: t32 :: t33 :: t34 :: t35 :: t36 :: t37 :: t38 :: t39 :: t40 :: t41 :: t42 :: t43 :: t44 :: t45 :: t46 :: t47 :: t48 :: t49 :: t50 :: t51 :: t52 :: t53 :: t54 :: t55 :: t56 :: t57 :: t58 :: t59 :: t60 :: t61 :: t62 :: t63 :: t64 :: []).toArray, defers := ds } W := by
  have hmeth := belowV_method
  have hB0 := (Below.refl W.heap.size W).drew
  have HSof : Hid (∀ w', Below W.heap.size W w' → w'.cell? ⟨kb, 0, none⟩ = some (.map (some mb)) ∧ (w'.cell? ⟨tb, 0, none⟩ = some (.int .i64 hd.k) ∧ w'.cell? ⟨tb, 1, none⟩ = some (.int .i64 hd.m) ∧ w'.cell? ⟨tb, 2, none⟩ = some (.int .i64 hd.e) ∧ w'.cell? ⟨tb, 3, none⟩ = some (.string hd.t) ∧ w'.cell? ⟨tb, 4, none⟩ = some (.slice a m c) ∧ w'.cell? ⟨tb, 5, none⟩ = some (.slice hd.na hd.ns.length hd.nc)) ∧ (Instr.lookup 77 (.map (some mb)) (.agg #[.pointer (plOf a m).1, .int .i64 (plOf a m).2]) false).run Try.prog w' = .ok (.agg #[.int .i64 p, .int .i64 q]) w') := fun w' h => by
    have hk1 := World.block_lt_of_cell? _ _ hk
    have ht1 := World.block_lt_of_cell? _ _ hT.1
    have hmlt : mb < W.heap.size := by obtain ⟨es, clock, h, _⟩ := hm; exact (Array.getElem?_eq_some_iff.1 h).1
    have hz : (zeroValue 49).run Try.prog w' = .ok (.agg #[.int .i64 0, .int .i64 0]) w' := by kernel_rfl
    have hl := plKeysV.look (mty := 77) (et := 49) Try.underlying77 (plOf a m) (hok.below h) (fun q hq => (hoks q hq).below h) (hm.grown _ (h.block _ hmlt)) hz
    rw [hg] at hl
    exact ⟨(h.cell (p := ⟨kb, 0, none⟩) hk1).trans hk, ⟨(h.cell (p := ⟨tb, 0, none⟩) ht1).trans hT.1, (h.cell (p := ⟨tb, 1, none⟩) ht1).trans hT.2.1, (h.cell (p := ⟨tb, 2, none⟩) ht1).trans hT.2.2.1, (h.cell (p := ⟨tb, 3, none⟩) ht1).trans hT.2.2.2.1, (h.cell (p := ⟨tb, 4, none⟩) ht1).trans hT.2.2.2.2.1, (h.cell (p := ⟨tb, 5, none⟩) ht1).trans hT.2.2.2.2.2⟩, hl⟩
  clear hk hT hm hok hoks hg
  refine wp_region_held_drew (S := fun w' => Below W.heap.size W w') (by kernel_rfl) hB0 (fun hHeld => ?_)
  refine wpAnyH_take (i := 0) (v := .map (some mb)) rfl (by kernel_rfl) (by kernel_rfl) (by kernel_rfl) (fun _ _ _ h => hp _ _ _ _ _ h) (Or.inl ⟨by rfl, ?_⟩) (by assumption) ?_
  · intro w hSw
    (try dsimp only at hSw)
    obtain ⟨f0, ⟨f1, f2, f3, f4, f5, f5b⟩, f6⟩ := HSof.out _ hSw
    go_simp
  (try simp only [Act.put, List.getElem_toArray, List.getElem_cons_zero, List.setIfInBounds_toArray, List.set_cons_zero, List.set_cons_succ])
  refine wpAnyH_take (i := 1) (v := valV hd a m c) rfl (by kernel_rfl) (by kernel_rfl) (by kernel_rfl) (fun _ _ _ h => hp _ _ _ _ _ h) (Or.inl ⟨by rfl, ?_⟩) (by assumption) ?_
  · intro w hSw
    (try dsimp only at hSw)
    obtain ⟨f0, ⟨f1, f2, f3, f4, f5, f5b⟩, f6⟩ := HSof.out _ hSw
    go_simp
  (try simp only [Act.put, List.getElem_toArray, List.getElem_cons_zero, List.getElem_cons_succ, List.setIfInBounds_toArray, List.set_cons_zero, List.set_cons_succ])
  refine wpAnyH_take (i := 2) (v := .iface 28 (valV hd a m c)) rfl (by kernel_rfl) (by kernel_rfl) (by kernel_rfl) (fun _ _ _ h => hp _ _ _ _ _ h) (Or.inl ⟨by rfl, ?_⟩) (by assumption) ?_
  · intro w hSw
    (try dsimp only at hSw)
    obtain ⟨f0, ⟨f1, f2, f3, f4, f5, f5b⟩, f6⟩ := HSof.out _ hSw
    go_simp
  (try simp only [Act.put, List.getElem_toArray, List.getElem_cons_zero, List.getElem_cons_succ, List.setIfInBounds_toArray, List.set_cons_zero, List.set_cons_succ])
  refine wpAnyH_ready (rs := [3, 6]) (by kernel_rfl) (by simp) ?_
  refine (AllReadyH.cons rfl (fun K hK => ?_) (AllReadyH.cons rfl (fun K hK => ?_) AllReadyH.nil))
  · go_simp
    refine (belowV_any hd a m c _).mono ?_
    rintro r w1 ⟨rfl, hb1⟩
    have hB1 := hB0.trans (hb1.mono hB0.size)
    go_wp2_with fail
    refine hK.out _ _ hB1 (fun hHeld => ?_)
    clear hK K
    refine wpAnyH_ready (rs := [4, 6]) (by kernel_rfl) (by simp) ?_
    refine (AllReadyH.cons rfl (fun K hK => ?_) (AllReadyH.cons rfl (fun K hK => ?_) AllReadyH.nil))
    · go_simp
      refine (placeOfV_any a m c _ ha hml).mono ?_
      rintro r w2 ⟨rfl, hb2⟩
      have hB2 := hB1.trans (hb2.mono hB1.size)
      go_wp2_with fail
      refine hK.out _ _ hB2 (fun hHeld => ?_)
      clear hK K
      unfold plV
      refine wpAnyH_take (i := 5) (v := (.agg #[.int .i64 p, .int .i64 q])) rfl (by kernel_rfl) (by kernel_rfl) (by kernel_rfl) (fun _ _ _ h => hp _ _ _ _ _ h) (Or.inl ⟨by rfl, ?_⟩) (by assumption) ?_
      · intro w hSw
        (try dsimp only at hSw)
        obtain ⟨f0, ⟨f1, f2, f3, f4, f5, f5b⟩, f6⟩ := HSof.out _ hSw
        go_simp
      (try simp only [Act.put, List.getElem_toArray, List.getElem_cons_zero, List.getElem_cons_succ, List.setIfInBounds_toArray, List.set_cons_zero, List.set_cons_succ])
      refine wpAnyH_ready (rs := [6]) (by kernel_rfl) (by simp) ?_
      refine (AllReadyH.cons rfl (fun K hK => ?_) AllReadyH.nil)
      · have RN := Row.new w2 [.int .i64 0, .int .i64 0] 49
        have hBA := hB2.alloc hB2.size (.cells #[.int .i64 0, .int .i64 0] 49)
        have hBg := hB2.size
        go_simp
        refine hK.out _ _ hBA (fun hHeld => ?_)
        clear hK K
        (try simp only [Act.put, List.getElem_toArray, List.getElem_cons_zero, List.getElem_cons_succ, List.setIfInBounds_toArray, List.set_cons_zero, List.set_cons_succ])
        obtain ⟨z0, z0f⟩ := RN 0 _ rfl
        obtain ⟨z1, z1f⟩ := RN 1 _ rfl
        have R1 := Row.new w2 [.int .i64 p, .int .i64 q] 49
        have hBs := hB2.alloc hB2.size (.cells #[.int .i64 p, .int .i64 q] 49)
        refine wpAnyH_ready (rs := [7]) (by kernel_rfl) (by simp) ?_
        refine (AllReadyH.cons rfl (fun K hK => ?_) AllReadyH.nil)
        · go_simp
          refine hK.out _ _ hBs (fun hHeld => ?_)
          clear hK K
          (try simp only [Act.put, List.getElem_toArray, List.getElem_cons_zero, List.getElem_cons_succ, List.setIfInBounds_toArray, List.set_cons_zero, List.set_cons_succ])
          refine wpAnyH_done (by kernel_rfl) ?_ _
          exact h _ _ _ _ _ _ _ _ hBg hBs R1
    · have RN := Row.new w1 [.int .i64 0, .int .i64 0] 49
      have hBA := hB1.alloc hB1.size (.cells #[.int .i64 0, .int .i64 0] 49)
      have hBg := hB1.size
      go_simp
      refine hK.out _ _ hBA (fun hHeld => ?_)
      clear hK K
      (try simp only [Act.put, List.getElem_toArray, List.getElem_cons_zero, List.getElem_cons_succ, List.setIfInBounds_toArray, List.set_cons_zero, List.set_cons_succ])
      refine wpAnyH_ready (rs := [4]) (by kernel_rfl) (by simp) ?_
      refine (AllReadyH.cons rfl (fun K hK => ?_) AllReadyH.nil)
      · go_simp
        refine (placeOfV_any a m c _ ha hml).mono ?_
        rintro r w2 ⟨rfl, hb2⟩
        have hB2 := hBA.trans (hb2.mono hBA.size)
        go_wp2_with fail
        refine hK.out _ _ hB2 (fun hHeld => ?_)
        clear hK K
        unfold plV
        have R2 := RN.below hb2 RN.lt
        refine wpAnyH_take (i := 5) (v := (.agg #[.int .i64 p, .int .i64 q])) rfl (by kernel_rfl) (by kernel_rfl) (by kernel_rfl) (fun _ _ _ h => hp _ _ _ _ _ h) (Or.inl ⟨by rfl, ?_⟩) (by assumption) ?_
        · intro w hSw
          (try dsimp only at hSw)
          obtain ⟨f0, ⟨f1, f2, f3, f4, f5, f5b⟩, f6⟩ := HSof.out _ hSw
          go_simp
        (try simp only [Act.put, List.getElem_toArray, List.getElem_cons_zero, List.getElem_cons_succ, List.setIfInBounds_toArray, List.set_cons_zero, List.set_cons_succ])
        have R1 := (R2.set (i := 0) (by decide) (.int .i64 p)).set (i := 1) (by simp) (.int .i64 q)
        obtain ⟨z0, z0f⟩ := R2 0 _ rfl
        obtain ⟨z1, z1f⟩ := R2 1 _ rfl
        have hBs := (hB2.setCell (p := ⟨w1.heap.size, 0, none⟩) hBg (.int .i64 p)).setCell (p := ⟨w1.heap.size, 1, none⟩) hBg (.int .i64 q)
        refine wpAnyH_ready (rs := [7]) (by kernel_rfl) (by simp) ?_
        refine (AllReadyH.cons rfl (fun K hK => ?_) AllReadyH.nil)
        · go_simp
          refine hK.out _ _ hBs (fun hHeld => ?_)
          clear hK K
          (try simp only [Act.put, List.getElem_toArray, List.getElem_cons_zero, List.getElem_cons_succ, List.setIfInBounds_toArray, List.set_cons_zero, List.set_cons_succ])
          refine wpAnyH_done (by kernel_rfl) ?_ _
          exact h _ _ _ _ _ _ _ _ hBg hBs R1
  · have RN := Row.new W.drew [.int .i64 0, .int .i64 0] 49
    have hBA := hB0.alloc hB0.size (.cells #[.int .i64 0, .int .i64 0] 49)
    have hBg := hB0.size
    go_simp
    refine hK.out _ _ hBA (fun hHeld => ?_)
    clear hK K
    (try simp only [Act.put, List.getElem_toArray, List.getElem_cons_zero, List.getElem_cons_succ, List.setIfInBounds_toArray, List.set_cons_zero, List.set_cons_succ])
    have RN' : Row _ W.heap.size _ := RN
    refine wpAnyH_ready (rs := [3]) (by kernel_rfl) (by simp) ?_
    refine (AllReadyH.cons rfl (fun K hK => ?_) AllReadyH.nil)
    · go_simp
      refine (belowV_any hd a m c _).mono ?_
      rintro r w1 ⟨rfl, hb1⟩
      have hB1 := hBA.trans (hb1.mono hBA.size)
      go_wp2_with fail
      refine hK.out _ _ hB1 (fun hHeld => ?_)
      clear hK K
      have R1' := RN'.below hb1 RN'.lt
      refine wpAnyH_ready (rs := [4]) (by kernel_rfl) (by simp) ?_
      refine (AllReadyH.cons rfl (fun K hK => ?_) AllReadyH.nil)
      · go_simp
        refine (placeOfV_any a m c _ ha hml).mono ?_
        rintro r w2 ⟨rfl, hb2⟩
        have hB2 := hB1.trans (hb2.mono hB1.size)
        go_wp2_with fail
        refine hK.out _ _ hB2 (fun hHeld => ?_)
        clear hK K
        unfold plV
        have R2 := R1'.below hb2 R1'.lt
        refine wpAnyH_take (i := 5) (v := (.agg #[.int .i64 p, .int .i64 q])) rfl (by kernel_rfl) (by kernel_rfl) (by kernel_rfl) (fun _ _ _ h => hp _ _ _ _ _ h) (Or.inl ⟨by rfl, ?_⟩) (by assumption) ?_
        · intro w hSw
          (try dsimp only at hSw)
          obtain ⟨f0, ⟨f1, f2, f3, f4, f5, f5b⟩, f6⟩ := HSof.out _ hSw
          go_simp
        (try simp only [Act.put, List.getElem_toArray, List.getElem_cons_zero, List.getElem_cons_succ, List.setIfInBounds_toArray, List.set_cons_zero, List.set_cons_succ])
        have R1 := (R2.set (i := 0) (by decide) (.int .i64 p)).set (i := 1) (by simp) (.int .i64 q)
        obtain ⟨z0, z0f⟩ := R2 0 _ rfl
        obtain ⟨z1, z1f⟩ := R2 1 _ rfl
        have hBs := (hB2.setCell (p := ⟨W.heap.size, 0, none⟩) hBg (.int .i64 p)).setCell (p := ⟨W.heap.size, 1, none⟩) hBg (.int .i64 q)
        refine wpAnyH_ready (rs := [7]) (by kernel_rfl) (by simp) ?_
        refine (AllReadyH.cons rfl (fun K hK => ?_) AllReadyH.nil)
        · go_simp
          refine hK.out _ _ hBs (fun hHeld => ?_)
          clear hK K
          (try simp only [Act.put, List.getElem_toArray, List.getElem_cons_zero, List.getElem_cons_succ, List.setIfInBounds_toArray, List.set_cons_zero, List.set_cons_succ])
          refine wpAnyH_done (by kernel_rfl) ?_ _
          exact h _ _ _ _ _ _ _ _ hBg hBs R1
end Go.Proofs.Ytafhpplhlmlfhaa
/- How many values a value has, by the program: the last region. -/
namespace Go.Proofs.Ytafhpplhlmlfhaa
open Go.RowKit
theorem grownBy_setC (w : World) (b i : Nat) (v : Value) : w.grownBy (w.setCell ⟨b, i, none⟩ v) (some b) :=
  ⟨rfl, rfl, rfl, by simp [World.setCell], fun k _ hk => Below.heap_setCell _ _ _ k (fun e => hk (by rw [e]))⟩
set_option maxRecDepth 100000 in
set_option maxHeartbeats 1000000 in
theorem ex16 {ds : List Deferred} {Q : Exit → Act → World → Prop} {t0 t1 t3 t4 t5 t6 t7 t8 t9 t11 t12 t13 t14 t15 t16 t17 t18 t19 t20 t21 t22 t23 t24 t25 t26 t27 t28 t29 t30 t31 t32 t33 t34 t35 t36 t37 t38 t39 t40 t41 t42 t43 t44 t45 t46 t47 t48 t49 t50 t51 t52 t53 t54 t55 t56 t57 t58 t59 t60 t61 t62 t63 t64 : Value} {W : World} {R C p q : Nat} {u0 u1 : Value}
    (RC : Row W C [.int .i64 p, .int .i64 q]) (RR : Row W R [u0, u1]) (hne : ¬ C = R)
    (hp : ∀ p d v a w, Q (.panic p) (Act.put a d v) w → Q (.panic p) a w) (h : ∀ ws v58 v59 v60 v61 v62 v63 v64, Row ws R [(.int .i64 (upTo2 p 1 : Nat)), (.int .i64 (upTo2 q 1 : Nat))] → W.grownBy ws (some R) → Q .normal { tmps := (t0 :: t1 :: (.pointer (some ⟨R, 0, none⟩)) :: t3 :: t4 :: t5 :: t6 :: t7 :: t8 :: t9 :: (.pointer (some ⟨C, 0, none⟩)) :: t11 :: t12 :: t13 :: t14 :: t15 :: t16 :: t17 :: t18 :: t19 :: t20 :: t21 :: t22 :: t23 :: t24 :: t25 :: t26 :: t27 :: t28 :: t29 :: t30 :: t31 :: t32 :: t33 :: t34 :: t35 :: t36 :: t37 :: t38 :: t39 :: t40 :: t41 :: t42 :: t43 :: t44 :: t45 :: t46 :: t47 :: t48 :: t49 :: t50 :: t51 :: t52 :: t53 :: t54 :: t55 :: t56 :: t57 :: v58 :: v59 :: v60 :: v61 :: v62 :: v63 :: v64 :: []).toArray, defers := ds } ws) :
    Code.wp Try.prog (Code.region 16 #[{ dst := some 58, op := Op.fieldAddr 49 (Operand.tmp 10) 0, type := 0, pos := "l3_tree.go:308", after := #[], guard := none }, { dst := some 59, op := Op.load 3 (Operand.tmp 58), type := 3, pos := "l3_tree.go:308", after := #[{ on := 0, ground := Ground.data }], guard := none }, { dst := some 60, op := Op.call { callee := Callee.value (Operand.func 52), args := #[Operand.tmp 59, Operand.const (Value.int IntKind.i64 1)], argTypes := #[3, 3] }, type := 3, pos := "l3_tree.go:308", after := #[{ on := 1, ground := Ground.data }], guard := none }, { dst := some 61, op := Op.fieldAddr 49 (Operand.tmp 10) 1, type := 0, pos := "l3_tree.go:308", after := #[], guard := none }, { dst := some 62, op := Op.load 3 (Operand.tmp 61), type := 3, pos := "l3_tree.go:308", after := #[{ on := 3, ground := Ground.data }], guard := none }, { dst := some 63, op := Op.call { callee := Callee.value (Operand.func 52), args := #[Operand.tmp 62, Operand.const (Value.int IntKind.i64 1)], argTypes := #[3, 3] }, type := 3, pos := "l3_tree.go:308", after := #[{ on := 4, ground := Ground.data }, { on := 2, ground := Ground.chain }], guard := none }, { dst := some 64, op := Op.build 49 #[(0, Operand.tmp 60), (1, Operand.tmp 63)], type := 49, pos := "l3_tree.go:308", after := #[{ on := 2, ground := Ground.data }, { on := 5, ground := Ground.data }], guard := none }, { dst := none, op := Op.store 49 (Operand.tmp 2) (Operand.tmp 64), type := 0, pos := "l3_tree.go:308", after := #[{ on := 6, ground := Ground.data }, { on := 5, ground := Ground.chain }, { on := 0, ground := Ground.phase }, { on := 1, ground := Ground.phase }, { on := 2, ground := Ground.phase }, { on := 3, ground := Ground.phase }, { on := 4, ground := Ground.phase }, { on := 5, ground := Ground.phase }, { on := 6, ground := Ground.phase }], guard := none }] true) Q { tmps := (t0 :: t1 :: (.pointer (some ⟨R, 0, none⟩)) :: t3 :: t4 :: t5 :: t6 :: t7 :: t8 :: t9 :: (.pointer (some ⟨C, 0, none⟩)) :: t11 :: t12 :: t13 :: t14 :: t15 :: t16 :: t17 :: t18 :: t19 :: t20 :: t21 :: t22 :: t23 :: t24 :: t25 :: t26 :: t27 :: t28 :: t29 :: t30 :: t31 :: t32 :: t33 :: t34 :: t35 :: t36 :: t37 :: t38 :: t39 :: t40 :: t41 :: t42 :: t43 :: t44 :: t45 :: t46 :: t47 :: t48 :: t49 :: t50 :: t51 :: t52 :: t53 :: t54 :: t55 :: t56 :: t57 :: t58 :: t59 :: t60 :: t61 :: t62 :: t63 :: t64 :: []).toArray, defers := ds } W := by
  have hC0 := (RC 0 _ rfl).1
  have hC1 := (RC 1 _ rfl).1
  have hCl := RC.lt
  have hRl := RR.lt
  have HR : Hid (Row W R [u0, u1]) := RR
  have HRC : Hid (Row W C [.int .i64 p, .int .i64 q]) := RC
  have hB0 := (Below.refl W.heap.size W).drew
  have HSof : Hid (∀ w', Below W.heap.size W w' → w'.cell? ⟨C, 0, none⟩ = some (.int .i64 p) ∧ w'.cell? ⟨C, 1, none⟩ = some (.int .i64 q)) := fun w' h => ⟨(h.cell (p := ⟨C, 0, none⟩) hCl).trans hC0, (h.cell (p := ⟨C, 1, none⟩) hCl).trans hC1⟩
  have hS0 := HSof.out _ hB0
  clear RC RR hC0 hC1
  refine wp_region_held_drew (S := fun w' => w'.cell? ⟨C, 0, none⟩ = some (.int .i64 p) ∧ w'.cell? ⟨C, 1, none⟩ = some (.int .i64 q)) (by kernel_rfl) hS0 (fun hHeld => ?_)
  refine wpAnyH_take (i := 0) (v := .pointer (some ⟨C, 0, none⟩)) rfl (by kernel_rfl) (by kernel_rfl) (by kernel_rfl) (fun _ _ _ h => hp _ _ _ _ _ h) (Or.inl ⟨by rfl, ?_⟩) (by assumption) ?_
  · intro w hSw
    (try dsimp only at hSw)
    go_simp
  (try simp only [Act.put, List.getElem_toArray, List.getElem_cons_zero, List.setIfInBounds_toArray, List.set_cons_zero, List.set_cons_succ])
  refine wpAnyH_take (i := 1) (v := .int .i64 p) rfl (by kernel_rfl) (by kernel_rfl) (by kernel_rfl) (fun _ _ _ h => hp _ _ _ _ _ h) (Or.inl ⟨by rfl, ?_⟩) (by assumption) ?_
  · intro w hSw
    (try dsimp only at hSw)
    go_simp
  (try simp only [Act.put, List.getElem_toArray, List.getElem_cons_zero, List.getElem_cons_succ, List.setIfInBounds_toArray, List.set_cons_zero, List.set_cons_succ])
  refine wpAnyH_take (i := 3) (v := .pointer (some ⟨C, 1, none⟩)) rfl (by kernel_rfl) (by kernel_rfl) (by kernel_rfl) (fun _ _ _ h => hp _ _ _ _ _ h) (Or.inl ⟨by rfl, ?_⟩) (by assumption) ?_
  · intro w hSw
    (try dsimp only at hSw)
    go_simp
  (try simp only [Act.put, List.getElem_toArray, List.getElem_cons_zero, List.getElem_cons_succ, List.setIfInBounds_toArray, List.set_cons_zero, List.set_cons_succ])
  refine wpAnyH_take (i := 4) (v := .int .i64 q) rfl (by kernel_rfl) (by kernel_rfl) (by kernel_rfl) (fun _ _ _ h => hp _ _ _ _ _ h) (Or.inl ⟨by rfl, ?_⟩) (by assumption) ?_
  · intro w hSw
    (try dsimp only at hSw)
    go_simp
  (try simp only [Act.put, List.getElem_toArray, List.getElem_cons_zero, List.getElem_cons_succ, List.setIfInBounds_toArray, List.set_cons_zero, List.set_cons_succ])
  refine wpAnyH_ready (rs := [2]) (by kernel_rfl) (by simp) ?_
  refine (AllReadyH.cons rfl (fun K hK => ?_) AllReadyH.nil)
  · go_simp
    refine (sumUpTo_any p 1 _ (by omega)).mono ?_
    rintro r w1 ⟨rfl, hb1⟩
    have hB1 := hB0.trans (hb1.mono hB0.size)
    go_wp2_with fail
    refine hK.out _ _ (HSof.out _ hB1) (fun hHeld => ?_)
    clear hK K
    refine wpAnyH_ready (rs := [5]) (by kernel_rfl) (by simp) ?_
    refine (AllReadyH.cons rfl (fun K hK => ?_) AllReadyH.nil)
    · go_simp
      refine (sumUpTo_any q 1 _ (by omega)).mono ?_
      rintro r w2 ⟨rfl, hb2⟩
      have hB2 := hB1.trans (hb2.mono hB1.size)
      go_wp2_with fail
      refine hK.out _ _ (HSof.out _ hB2) (fun hHeld => ?_)
      clear hK K
      refine wpAnyH_take (i := 6) (v := .agg #[(.int .i64 (upTo2 p 1 : Nat)), (.int .i64 (upTo2 q 1 : Nat))]) rfl (by kernel_rfl) (by kernel_rfl) (by kernel_rfl) (fun _ _ _ h => hp _ _ _ _ _ h) (Or.inl ⟨by rfl, ?_⟩) (by assumption) ?_
      · intro w hSw
        (try dsimp only at hSw)
        go_simp
      (try simp only [Act.put, List.getElem_toArray, List.getElem_cons_zero, List.getElem_cons_succ, List.setIfInBounds_toArray, List.set_cons_zero, List.set_cons_succ])
      have R2 := HR.out.below hB2 hRl
      obtain ⟨z0, z0f⟩ := R2 0 _ rfl
      obtain ⟨z1, z1f⟩ := R2 1 _ rfl
      have R3 := (R2.set (i := 0) (by simp) (.int .i64 (upTo2 p 1 : Nat))).set (i := 1) (by simp) (.int .i64 (upTo2 q 1 : Nat))
      have hS3 : (fun w' => w'.cell? ⟨C, 0, none⟩ = some (.int .i64 p) ∧ w'.cell? ⟨C, 1, none⟩ = some (.int .i64 q)) ((w2.setCell ⟨R, 0, none⟩ (.int .i64 (upTo2 p 1 : Nat))).setCell ⟨R, 1, none⟩ (.int .i64 (upTo2 q 1 : Nat))) := by
        have h2 := ((HRC.out.below hB2 hCl).setOther hne 0 (.int .i64 (upTo2 p 1 : Nat))).setOther hne 1 (.int .i64 (upTo2 q 1 : Nat))
        exact ⟨(h2 0 _ rfl).1, (h2 1 _ rfl).1⟩
      have hG : W.grownBy ((w2.setCell ⟨R, 0, none⟩ (.int .i64 (upTo2 p 1 : Nat))).setCell ⟨R, 1, none⟩ (.int .i64 (upTo2 q 1 : Nat))) (some R) := by
        refine grown_trans ⟨hB2.os, hB2.tape, hB2.output, hB2.size, fun k hk _ => hB2.block k hk⟩ (grown_trans (b := w2.setCell ⟨R, 0, none⟩ (.int .i64 (upTo2 p 1 : Nat))) ?_ ?_)
        · exact grownBy_setC _ _ _ _
        · exact grownBy_setC _ _ _ _
      refine wpAnyH_ready (rs := [7]) (by kernel_rfl) (by simp) ?_
      refine (AllReadyH.cons rfl (fun K hK => ?_) AllReadyH.nil)
      · go_simp
        refine hK.out _ _ hS3 (fun hHeld => ?_)
        clear hK K
        refine wpAnyH_done (by kernel_rfl) ?_ _
        exact h _ _ _ _ _ _ _ _ R3 hG
end Go.Proofs.Ytafhpplhlmlfhaa
/- How many values a value has and how deep it is, by the program: what the map holds; how deep the first so many of a list are. -/
namespace Go.Proofs.Ytafhpplhlmlfhaa
open Go.RowKit
def extV (x : Li) : Value := .agg #[.int .i64 x.F.size, .int .i64 x.F.deep]
def exts' : List Li → List (Pl × Value)
  | [] => []
  | x :: t => putL x.pl (extV x) (exts' t)
/-- what the map holds behind those lists -/
def exts (pre : List Li) : List (Pl × Value) := exts' pre.reverse
theorem exts_snoc (pre : List Li) (x : Li) : exts (pre ++ [x]) = putL x.pl (extV x) (exts pre) := by
  unfold exts
  rw [List.reverse_append]
  rfl
theorem exts_keys' : ∀ (l : List Li) (q : Pl × Value), q ∈ exts' l → ∃ y ∈ l, y.pl = q.1 := by
  intro l
  induction l with
  | nil => intro q hq; exact absurd hq List.not_mem_nil
  | cons x t ih =>
    intro q hq
    rcases putL_keys _ _ _ q hq with e | hq
    · exact ⟨x, List.mem_cons_self, e.symm⟩
    · obtain ⟨y, hy, e⟩ := ih q hq
      exact ⟨y, List.mem_cons_of_mem _ hy, e⟩
theorem exts_get' {w : World} {x : Li} (hx : x.Ok w) : ∀ (l : List Li), (∀ y ∈ l, y.Ok w) → (∃ z ∈ l, z.pl = x.pl) → getL x.pl (exts' l) = some (extV x) := by
  intro l
  induction l with
  | nil => rintro _ ⟨z, hz, _⟩; exact absurd hz List.not_mem_nil
  | cons y t ih =>
    rintro hok ⟨z, hz, e⟩
    show getL x.pl (putL y.pl (extV y) (exts' t)) = _
    rw [getL_put]
    by_cases h : x.pl = y.pl
    · rw [if_pos h]
      have hF := Li.F_inj hx (hok y List.mem_cons_self) h
      unfold extV
      rw [hF]
    · rw [if_neg h]
      refine ih (fun y hy => hok y (List.mem_cons_of_mem _ hy)) ⟨z, ?_, e⟩
      rcases List.mem_cons.1 hz with rfl | hz
      · exact absurd e.symm h
      · exact hz
theorem exts_keys {w : World} {pre : List Li} (hok : ∀ y ∈ pre, y.Ok w) : ∀ q ∈ exts pre, PlOk w q.1 := fun q hq => by
  obtain ⟨y, hy, e⟩ := exts_keys' _ q hq
  rw [← e]
  exact (hok y (List.mem_reverse.1 hy)).2.1
theorem exts_get {w : World} {pre : List Li} {x : Li} (hx : x.Ok w) (hok : ∀ y ∈ pre, y.Ok w) (h : ∃ z ∈ pre, z.pl = x.pl) : getL x.pl (exts pre) = some (extV x) := by
  obtain ⟨z, hz, e⟩ := h
  exact exts_get' hx _ (fun y hy => hok y (List.mem_reverse.1 hy)) ⟨z, List.mem_reverse.2 hz, e⟩
/-- how deep the first so many are -/
def Vo.dpTo (F : Vo) : Nat → Nat
  | 0 => 0
  | n + 1 => max (F.dpTo n) ((F.kidsAt n).deep + 1)
theorem dpTo_next (hd : Hd) (a : Option Addr) (c : Nat) (kids next : Vo) (n : Nat) : (Vo.cons hd a c kids next).dpTo (n + 1) = max (kids.deep + 1) (next.dpTo n) := by
  induction n with
  | zero => show max 0 (kids.deep + 1) = max (kids.deep + 1) 0; omega
  | succ n ih => show max ((Vo.cons hd a c kids next).dpTo (n + 1)) ((next.kidsAt n).deep + 1) = max (kids.deep + 1) (max (next.dpTo n) ((next.kidsAt n).deep + 1)); rw [ih]; omega
theorem dpTo_len (F : Vo) : F.dpTo F.len = F.deep := by
  induction F with
  | nil => rfl
  | cons hd a c kids next _ ih => show (Vo.cons hd a c kids next).dpTo (next.len + 1) = max (kids.deep + 1) next.deep; rw [dpTo_next, ih]
theorem upTo2_small {x y : Nat} (h : x + y ≤ 9223372036854775807) : upTo2 x y = x + y := if_neg (by omega)
theorem listsOf_any (hd : Hd) (a : Option Addr) (n c : Nat) (w : World) :
    Calls Try.prog 50 #[valV hd a n c] w fun r w' => r = .returned (.func (.func 81) #[] #[.pointer (some ⟨w.heap.size, 0, none⟩)]) ∧ w' = w.alloc (.cells #[.int .i64 hd.k, .int .i64 hd.m, .int .i64 hd.e, .string hd.t, .slice a n c, .slice hd.na hd.ns.length hd.nc] 28) := by
  go_enter Try.func50, Try.ntmps50
  go_wp2_with fail
  go_ret
  exact ⟨rfl, rfl⟩
end Go.Proofs.Ytafhpplhlmlfhaa
/- How many values a value has and how deep it is, by the program. -/
namespace Go.Proofs.Ytafhpplhlmlfhaa
open Go.RowKit Go.Shelf
attribute [local go_sem] Oper.semAt_some
/-- what the range keeps: N where its memory begins -/
structure EI (w : World) (N kd : Nat) (vs : List Value) (pre : List Li) (W : World) : Prop where
  res : Row W (kd + 1) [.int .i64 0, .int .i64 0]
  node : Row W kd vs
  box : W.cell? ⟨kd + 3, 0, none⟩ = some (.map (some (kd + 2)))
  map : plKeysV.Is W (kd + 2) (exts pre)
  oks : ∀ y ∈ pre, y.Ok w
  bel : Below w.heap.size w W
  sz : N ≤ W.heap.size
theorem EI.low {w : World} {N kd : Nat} {vs : List Value} (hw : w.heap.size ≤ kd) (hN : kd + 4 < N) : Low N (EI w N kd vs) := fun pre A A' h hb => by
  refine ⟨h.res.below hb (by omega), h.node.below hb (by omega), (hb.cell (p := ⟨kd + 3, 0, none⟩) (by show kd + 3 < N; omega)).trans h.box, h.map.grown _ (hb.block _ (by omega)), h.oks, h.bel.trans (hb.mono (by omega)), Nat.le_trans h.sz hb.size⟩
theorem Row.grownR {w w' : World} {b : Nat} {vs : List Value} {r : Option Nat} (h : Row w b vs) (hg : w.grownBy w' r) (hb : b < w.heap.size) (hn : some b ≠ r) : Row w' b vs := fun i v hi => by
  have hk := hg.block b hb hn
  have h1 := h i v hi
  refine ⟨(grown_cell hg i hb hn).trans h1.1, ?_⟩
  have h2 := h1.2
  unfold World.frozen? at h2 ⊢
  rw [hk]
  exact h2
theorem upTo_mono (F : Vo) {i j : Nat} (h : i ≤ j) : F.upTo i ≤ F.upTo j := by
  induction j with
  | zero => have : i = 0 := by omega
            subst this; exact Nat.le_refl _
  | succ j ih =>
    by_cases e : i = j + 1
    · subst e; exact Nat.le_refl _
    · have h1 := ih (by omega)
      have h2 : F.upTo (j + 1) = F.upTo j + ((F.kidsAt j).size + 1) := rfl
      omega
theorem upTo_le (F : Vo) {j : Nat} (h : j < F.len) : F.upTo (j + 1) ≤ F.size := by
  have h1 := upTo_mono F (i := j + 1) (j := F.len) h
  rw [upTo_lenV] at h1
  exact h1
theorem EI.low' {w : World} {N kd : Nat} {vs : List Value} {pre : List Li} {W W' : World} (h : EI w N kd vs pre W) (hb : Below W.heap.size W W') : W'.cell? ⟨kd + 3, 0, none⟩ = some (.map (some (kd + 2))) ∧ plKeysV.Is W' (kd + 2) (exts pre) ∧ Below w.heap.size w W' := by
  have h1 := World.block_lt_of_cell? _ _ h.box
  have h2 : kd + 2 < W.heap.size := by obtain ⟨es, clock, h, _⟩ := h.map; exact (Array.getElem?_eq_some_iff.1 h).1
  exact ⟨(hb.cell (p := ⟨kd + 3, 0, none⟩) h1).trans h.box, h.map.grown _ (hb.block _ h2), h.bel.trans (hb.mono h.bel.size)⟩
/-- a post that lets no panic through -/
def NoP (Q : Exit → Act → World → Prop) : Exit → Act → World → Prop := fun e a w => (∀ p, e ≠ .panic p) ∧ Q e a w
theorem wpIn_noP {P : Program} {c : Code} {F : Fence} {n : Nat} {Q : Exit → Act → World → Prop} {a : Act} {w : World} (h : c.wpIn F n P (NoP Q) a w) : c.wpIn F n P Q a w := wpIn_mono h (fun _ _ _ h => h.2)
theorem noP_hp {Q : Exit → Act → World → Prop} : ∀ p d v a w, NoP Q (.panic p) (Act.put a d v) w → NoP Q (.panic p) a w := fun p _ _ _ _ h => absurd rfl (h.1 p)
set_option maxRecDepth 100000 in
set_option maxHeartbeats 4000000 in
theorem extentOf_any (hd : Hd) (a : Option Addr) (F : Vo) (c : Nat) (w : World) (hok : Li.Ok w ⟨a, F, c⟩) :
    Calls Try.prog 28 #[valV hd a F.len c] w fun r w' => r = .returned (.agg #[.int .i64 (F.size + 1 : Nat), .int .i64 (F.deep + 1 : Nat)]) ∧ Below w.heap.size w w' := by
  have hmm : ∀ W, (Instr.makeMap 77 none).run Try.prog W = .ok (.map (some W.heap.size)) (W.alloc (.map #[] 0)) := fun W => run_makeMap _ _
  refine (callsIn_wide (n := 5)).1 ?_
  refine callsIn_of_wp_marks Try.func28 rfl trivial ?_ rfl
  simp only [Try.ntmps28, List.size_toArray, List.length_cons, List.length_nil, Nat.reduceAdd, Nat.reduceSub, Array.replicate_succ, Array.replicate_zero, List.push_toArray, List.append_toArray, List.nil_append, List.cons_append]
  gi_wp2_with fail
  refine ⟨trivial, (callsIn_wide.2 (listsOf_any hd a F.len c _)).mono ?_⟩
  rintro r W0' ⟨rfl, rfl⟩
  obtain ⟨A1, hA1⟩ : ∃ A1, w.alloc (.cells #[.int .i64 hd.k, .int .i64 hd.m, .int .i64 hd.e, .string hd.t, .slice a F.len c, .slice hd.na hd.ns.length hd.nc] 28) = A1 := ⟨_, rfl⟩
  have R1 : Row A1 w.heap.size [.int .i64 hd.k, .int .i64 hd.m, .int .i64 hd.e, .string hd.t, .slice a F.len c, .slice hd.na hd.ns.length hd.nc] := by rw [← hA1]; exact Row.new w [.int .i64 hd.k, .int .i64 hd.m, .int .i64 hd.e, .string hd.t, .slice a F.len c, .slice hd.na hd.ns.length hd.nc] 28
  have s1 : A1.heap.size = w.heap.size + 1 := by rw [← hA1]; simp
  have b1 : Below w.heap.size w A1 := by rw [← hA1]; exact (Below.refl _ w).alloc (Nat.le_refl _) _
  rw [hA1]
  clear hA1
  obtain ⟨A2, hA2⟩ : ∃ A2, A1.alloc (.cells #[.int .i64 0, .int .i64 0] 49) = A2 := ⟨_, rfl⟩
  have R2 : Row A2 A1.heap.size [.int .i64 0, .int .i64 0] := by rw [← hA2]; exact Row.new A1 [.int .i64 0, .int .i64 0] 49
  have s2 : A2.heap.size = A1.heap.size + 1 := by rw [← hA2]; simp
  have b2 : Below A1.heap.size A1 A2 := by rw [← hA2]; exact (Below.refl _ A1).alloc (Nat.le_refl _) _
  rw [hA2]
  clear hA2
  obtain ⟨A3, hA3⟩ : ∃ A3, A2.alloc (.map #[] 0) = A3 := ⟨_, rfl⟩
  have M3 : plKeysV.Has A3 A2.heap.size [] := by rw [← hA3]; exact plKeysV.has_new _ _ (heap_alloc_new _ _)
  have s3 : A3.heap.size = A2.heap.size + 1 := by rw [← hA3]; simp
  have b3 : Below A2.heap.size A2 A3 := by rw [← hA3]; exact (Below.refl _ A2).alloc (Nat.le_refl _) _
  rw [hA3]
  clear hA3
  obtain ⟨A4, hA4⟩ : ∃ A4, A3.alloc (.cells #[.map (some (w.heap.size + 1 + 1))] 77) = A4 := ⟨_, rfl⟩
  have R4 : Row A4 A3.heap.size [.map (some (w.heap.size + 1 + 1))] := by rw [← hA4]; exact Row.new A3 [.map (some (w.heap.size + 1 + 1))] 77
  have s4 : A4.heap.size = A3.heap.size + 1 := by rw [← hA4]; simp
  have b4 : Below A3.heap.size A3 A4 := by rw [← hA4]; exact (Below.refl _ A3).alloc (Nat.le_refl _) _
  rw [hA4]
  clear hA4
  obtain ⟨A5, hA5⟩ : ∃ A5, A4.alloc (.cells #[.int .i64 hd.k, .int .i64 hd.m, .int .i64 hd.e, .string hd.t, .slice a F.len c, .slice hd.na hd.ns.length hd.nc] 28) = A5 := ⟨_, rfl⟩
  have R5 : Row A5 A4.heap.size [.int .i64 hd.k, .int .i64 hd.m, .int .i64 hd.e, .string hd.t, .slice a F.len c, .slice hd.na hd.ns.length hd.nc] := by rw [← hA5]; exact Row.new A4 [.int .i64 hd.k, .int .i64 hd.m, .int .i64 hd.e, .string hd.t, .slice a F.len c, .slice hd.na hd.ns.length hd.nc] 28
  have s5 : A5.heap.size = A4.heap.size + 1 := by rw [← hA5]; simp
  have b5 : Below A4.heap.size A4 A5 := by rw [← hA5]; exact (Below.refl _ A4).alloc (Nat.le_refl _) _
  rw [hA5]
  clear hA5
  have b45 := b4.trans (b5.mono (by omega))
  have b35 := b3.trans (b45.mono (by omega))
  have b25 := b2.trans (b35.mono (by omega))
  have b15 := b1.trans (b25.mono (by omega))
  have E4 : A4.heap.size = w.heap.size + 4 := by omega
  have E3 : A3.heap.size = w.heap.size + 3 := by omega
  have E2 : A2.heap.size = w.heap.size + 2 := by omega
  rw [E4]
  have HEI : Hid (EI w A5.heap.size w.heap.size [.int .i64 hd.k, .int .i64 hd.m, .int .i64 hd.e, .string hd.t, .slice a F.len c, .slice hd.na hd.ns.length hd.nc] [] A5) := by
    refine ⟨?_, R1.below b25 (by omega), ?_, ?_, fun y hy => absurd hy List.not_mem_nil, b15, Nat.le_refl _⟩
    · have := R2.below b35 (by omega); rw [s1] at this; exact this
    · have := ((R4.below b5 (by omega)) 0 _ rfl).1; rw [E3] at this; exact this
    · have h1 := (has_below M3 (b45.mono (by omega))).is; rw [E2] at h1; exact h1
  have hsN : A5.heap.size = w.heap.size + 5 := by omega
  have HSq : Hid (SeqLow 4 Try.prog 81 #[.pointer (some ⟨w.heap.size + 4, 0, none⟩)] (fun x : Li => #[.slice x.a x.F.len x.c]) w.heap.size (Told w) (All w ⟨a, F, c⟩) A5) := by
    rw [E4] at R5
    exact lists_low w 4 (w.heap.size + 4) hd ⟨a, F, c⟩ A5 hok ⟨b15.size, b15.block⟩ (R5 0 _ rfl).1 (R5 1 _ rfl).1 (R5 2 _ rfl).1 (R5 3 _ rfl).1 (R5 4 _ rfl).1 (R5 5 _ rfl).1
  clear R1 R2 M3 R4 R5 b1 b2 b3 b4 b5 b45 b35 b25 b15 s1 s2 s3 s4 s5 E4 E3 E2
  gi_wp2_with fail
  refine wpIn_range_low (gf := 81) (lb := #[.pointer (some ⟨w.heap.size + 4, 0, none⟩)]) rfl (enters_of Try.func81 (by kernel_rfl) rfl) (n0 := w.heap.size) (by omega) HSq.out (fun _ => rfl) (EI w A5.heap.size w.heap.size [.int .i64 hd.k, .int .i64 hd.m, .int .i64 hd.e, .string hd.t, .slice a F.len c, .slice hd.na hd.ns.length hd.nc]) (EI.low (Nat.le_refl _) (by omega)) HEI.out (fun x => { tmps := #[valV hd a F.len c, .pointer (some ⟨w.heap.size, 0, none⟩), .pointer (some ⟨w.heap.size + 1, 0, none⟩), .pointer (some ⟨w.heap.size + 1 + 1 + 1, 0, none⟩), .slice x.a x.F.len x.c, undef, undef, undef, undef, undef, undef, .map (some (w.heap.size + 1 + 1)), .agg #[.int .i64 hd.k, .int .i64 hd.m, .int .i64 hd.e, .string hd.t, .slice a F.len c, .slice hd.na hd.ns.length hd.nc], .func (.func 81) #[] #[.pointer (some ⟨w.heap.size + 4, 0, none⟩)], .slice x.a x.F.len x.c, undef, undef, undef, undef, undef, undef, undef, undef, undef, undef, undef, undef, undef, undef, undef, undef, undef, undef, undef, undef, undef, undef, undef, undef, undef, undef, undef, undef, undef, undef, undef, undef, undef, undef, undef, undef, undef, undef, undef, undef, undef, undef, undef, undef, undef, undef, undef, undef, undef, undef], defers := [] }) ?assign ?body ?done
  case assign =>
    intro l x W K hK
    gi_wp2
    exact hK
  case body =>
    rintro l pre ⟨xa, xF, xc⟩ W ⟨res, node, box, map, oks, bel, sz⟩ ⟨hxok, hkids⟩ hz
    have hmeth := belowV_method
    have hxs : xF.size ≤ 1100000 := hxok.2.2.2
    have hxl : xF.len ≤ 2000000 := li_len hxok
    have HK : Hid (∀ i, i < xF.len → ∃ y ∈ pre, y.pl = (Li.kid ⟨xa, xF, xc⟩ i).pl) := hkids
    have HX : Hid (Li.Ok w ⟨xa, xF, xc⟩) := hxok
    have HOks : Hid (∀ y ∈ pre, y.Ok w) := oks
    have HEI' : Hid (EI w A5.heap.size w.heap.size [.int .i64 hd.k, .int .i64 hd.m, .int .i64 hd.e, .string hd.t, .slice a F.len c, .slice hd.na hd.ns.length hd.nc] pre W) := ⟨res, node, box, map, oks, bel, sz⟩
    have hWz : w.heap.size ≤ W.heap.size := bel.size
    clear hkids hxok oks res node box map bel
    dsimp only at hxl ⊢
    gi_wp2
    gi_loopw [17] (fun i wr => ∃ j : Nat, i = .int .i64 j ∧ j ≤ xF.len ∧ Row wr W.heap.size [.int .i64 (xF.upTo j : Nat), .int .i64 (xF.dpTo j : Nat)] ∧ Below W.heap.size W wr) (fun i _ => xF.len - (intOf i).toNat)
    case atStart => exact ⟨0, rfl, Nat.zero_le _, Row.new W [.int .i64 0, .int .i64 0] 49, (Below.refl _ W).alloc (Nat.le_refl _) _⟩
    case round =>
      obtain ⟨j, rfl, hj, hRow, hb⟩ := hrel
      by_cases hjn : j < xF.len
      · have hjl : (j : Int) < (xF.len : Int) := by omega
        obtain ⟨b, o, rfl, hFr⟩ := Vo.from_of_len HX.out.1 hjn
        have hwr : Below w.heap.size w wr := HEI'.out.bel.trans (hb.mono hWz)
        obtain ⟨⟨h1, h2, h3, h4, h5, h6⟩, _⟩ := Vo.from_at (Vo.from_grow hwr xF b o hFr) hjn
        have hko := Li.ok_kid HX.out hjn
        have hka := len_or' hko.1
        have hkl : (xF.kidsAt j).len ≤ 2000000 := li_len hko
        have hget := exts_get hko HOks.out (HK.out j hjn)
        have hup : xF.upTo (j + 1) ≤ xF.size := upTo_le xF hjn
        have hd := (xF.kidsAt j).deep_le
        have hks : (xF.kidsAt j).size ≤ 1100000 := hko.2.2.2
        obtain ⟨wq, hwq⟩ : ∃ wq, wr.alloc (.cells #[.int .i64 (xF.hdAt j).k, .int .i64 (xF.hdAt j).m, .int .i64 (xF.hdAt j).e, .string (xF.hdAt j).t, .slice (xF.addrAt j) (xF.kidsAt j).len (xF.capAt j), .slice (xF.hdAt j).na (xF.hdAt j).ns.length (xF.hdAt j).nc] 28) = wq := ⟨_, rfl⟩
        have RT : Row wq wr.heap.size [.int .i64 (xF.hdAt j).k, .int .i64 (xF.hdAt j).m, .int .i64 (xF.hdAt j).e, .string (xF.hdAt j).t, .slice (xF.addrAt j) (xF.kidsAt j).len (xF.capAt j), .slice (xF.hdAt j).na (xF.hdAt j).ns.length (xF.hdAt j).nc] := by rw [← hwq]; exact Row.new wr [.int .i64 (xF.hdAt j).k, .int .i64 (xF.hdAt j).m, .int .i64 (xF.hdAt j).e, .string (xF.hdAt j).t, .slice (xF.addrAt j) (xF.kidsAt j).len (xF.capAt j), .slice (xF.hdAt j).na (xF.hdAt j).ns.length (xF.hdAt j).nc] 28
        have hbq : Below wr.heap.size wr wq := by rw [← hwq]; exact (Below.refl _ wr).alloc (Nat.le_refl _) _
        have hbW : Below W.heap.size W wq := hb.trans (hbq.mono hb.size)
        have hAq := hRow.below hbq hRow.lt
        have hEq := HEI'.out.low' hbW
        clear hFr
        gi_wp2
        refine ex8 (kb := w.heap.size + 3) (mb := w.heap.size + 2) (L := exts pre) (p := (xF.kidsAt j).size) (q := (xF.kidsAt j).deep) (b := true) hEq.1 ⟨(RT 0 _ rfl).1, (RT 1 _ rfl).1, (RT 2 _ rfl).1, (RT 3 _ rfl).1, (RT 4 _ rfl).1, (RT 5 _ rfl).1⟩ hEq.2.1 (hko.2.1.below hEq.2.2) (fun q hq => (exts_keys HOks.out q hq).below hEq.2.2) hka hkl (by rw [show plOf (xF.addrAt j) (xF.kidsAt j).len = (Li.kid ⟨some ⟨b, o, none⟩, xF, xc⟩ j).pl from rfl, hget]; rfl) (by rw [show plOf (xF.addrAt j) (xF.kidsAt j).len = (Li.kid ⟨some ⟨b, o, none⟩, xF, xc⟩ j).pl from rfl, hget]; rfl) (fun _ d _ _ _ h => by cases d <;> exact h) ?_
        intro ws B v21 v22 v23 v24 v25 v26 v27 v28 v29 hB hbs hRs
        have hAs := hAq.below hbs hAq.lt
        have hbWs : Below W.heap.size W ws := hbW.trans (hbs.mono hbW.size)
        have hAB : ¬ B = W.heap.size := by have := hAq.lt; omega
        clear hAq hbW RT hbq hEq hget hka hwq h1 h2 h3 h4 h5 h6
        gi_wp2
        refine ex11 hAs hRs (fun _ d _ _ _ h => by cases d <;> exact h) ?_
        rintro _ w9 v33 v34 v35 v36 v37 v38 v39 hb9 rfl
        have hA9 := (hAs.below hb9 hAs.lt).set (i := 0) (by simp) (.int .i64 (upTo2 (xF.upTo j) (upTo2 (xF.kidsAt j).size 1) : Nat))
        have hR9 := (hRs.below hb9 hRs.lt).setOther hAB 0 (.int .i64 (upTo2 (xF.upTo j) (upTo2 (xF.kidsAt j).size 1) : Nat))
        have hb9W : Below W.heap.size W (w9.setCell ⟨W.heap.size, 0, none⟩ (.int .i64 (upTo2 (xF.upTo j) (upTo2 (xF.kidsAt j).size 1) : Nat))) := (hbWs.trans (hb9.mono hbWs.size)).setCell (p := ⟨W.heap.size, 0, none⟩) (Nat.le_refl _) _
        generalize w9.setCell ⟨W.heap.size, 0, none⟩ (.int .i64 (upTo2 (xF.upTo j) (upTo2 (xF.kidsAt j).size 1) : Nat)) = wa at *
        clear hb9 hAs hRs hbWs
        gi_wp2
        refine ex12 hA9 hR9 (fun _ d _ _ _ h => by cases d <;> exact h) ?_
        rintro _ w10 v40 v41 v42 v43 v44 v45 v46 hb10 rfl
        have hA10 := (hA9.below hb10 hA9.lt).set (i := 1) (by simp) (.int .i64 (max (xF.dpTo j) (upTo2 (xF.kidsAt j).deep 1) : Nat))
        have hb10W : Below W.heap.size W (w10.setCell ⟨W.heap.size, 1, none⟩ (.int .i64 (max (xF.dpTo j) (upTo2 (xF.kidsAt j).deep 1) : Nat))) := (hb9W.trans (hb10.mono hb9W.size)).setCell (p := ⟨W.heap.size, 1, none⟩) (Nat.le_refl _) _
        generalize w10.setCell ⟨W.heap.size, 1, none⟩ (.int .i64 (max (xF.dpTo j) (upTo2 (xF.kidsAt j).deep 1) : Nat)) = wb at *
        have e1 : upTo2 (xF.upTo j) (upTo2 (xF.kidsAt j).size 1) = xF.upTo (j + 1) := by
          have h2 : xF.upTo (j + 1) = xF.upTo j + ((xF.kidsAt j).size + 1) := rfl
          rw [upTo2_small (x := (xF.kidsAt j).size) (by omega), upTo2_small (by omega)]; omega
        have e2 : max (xF.dpTo j) (upTo2 (xF.kidsAt j).deep 1) = xF.dpTo (j + 1) := by
          rw [upTo2_small (x := (xF.kidsAt j).deep) (by omega)]; rfl
        have HRn : Hid (Row wb W.heap.size [.int .i64 (xF.upTo (j + 1) : Nat), .int .i64 (xF.dpTo (j + 1) : Nat)]) := by rw [← e1, ← e2]; exact hA10
        clear hA10 hA9 hR9 hb10 hb9W e1 e2
        gi_wp2
        go_roundw
        case rel =>
          (repeat apply Exists.intro)
          refine ⟨⟨j + 1, ?_, by omega, HRn.out, hb10W⟩, rfl⟩
          go_num
        case measure => simp [intOf]; omega
      · have ej : j = xF.len := by omega
        subst ej
        have hjl : ¬ (xF.len : Int) < (xF.len : Int) := by omega
        gi_wp2
        rw [upTo_lenV, dpTo_len] at hRow
        have hEq := HEI'.out.low' hb
        refine ex14 (kb := w.heap.size + 3) (mb := w.heap.size + 2) (A := W.heap.size) (x := xF.size) (y := xF.deep) (L := exts pre) ⟨hEq.1, (hRow 0 _ rfl).1, (hRow 1 _ rfl).1⟩ hEq.2.1 (HX.out.2.1.below hEq.2.2) (fun q hq => (exts_keys HOks.out q hq).below hEq.2.2) (len_or' HX.out.1) hxl (by omega) (by omega) (fun _ d _ _ _ h => by cases d <;> exact h) ?_
        intro ws v48 v49 v50 v51 hmS hgr
        have hN : EI w A5.heap.size w.heap.size [.int .i64 hd.k, .int .i64 hd.m, .int .i64 hd.e, .string hd.t, .slice a F.len c, .slice hd.na hd.ns.length hd.nc] (pre ++ [⟨xa, xF, xc⟩]) ws := by
          have hR := HEI'.out.res
          have hNd := HEI'.out.node
          have hBx := World.block_lt_of_cell? _ _ HEI'.out.box
          have hzz := hb.size
          refine ⟨(hR.below hb hR.lt).grownR hgr (by have := hR.lt; omega) (fun e => by have := Option.some.inj e; omega), (hNd.below hb hNd.lt).grownR hgr (by have := hNd.lt; omega) (fun e => by have := Option.some.inj e; omega), (grown_cell hgr 0 (by have : w.heap.size + 3 < W.heap.size := hBx; omega) (fun e => by have := Option.some.inj e; omega)).trans hEq.1, ?_, ?_, hEq.2.2.grown hgr (by have := hEq.2.2.size; omega) (fun k hk => by have := Option.some.inj hk; omega), Nat.le_trans HEI'.out.sz (Nat.le_trans hzz hgr.size)⟩
          · rw [exts_snoc]; exact hmS
          · intro y hy
            rcases List.mem_append.1 hy with hy | hy
            · exact HOks.out y hy
            · rw [List.mem_singleton] at hy; subst hy; exact HX.out
        have hKp : Keeps2 w.heap.size A5.heap.size W ws := ⟨Nat.le_trans hb.size hgr.size, fun i hi hil => (hgr.block i (by have := hb.size; omega) (fun e => by have := Option.some.inj e; omega)).trans (hb.block i hil)⟩
        rw [hsN] at hN hKp
        gi_wp2
  case done =>
    rintro xs W ⟨hoks, hall⟩ ⟨res, node, box, map, oks, bel, sz⟩ hD
    have hget := exts_get hok oks hall
    gi_wp2
    refine wpIn_noP (wpIn_wide.2 (ex15 (kb := w.heap.size + 3) (mb := w.heap.size + 2) (tb := w.heap.size) (L := exts xs) (p := F.size) (q := F.deep) box ⟨(node 0 _ rfl).1, (node 1 _ rfl).1, (node 2 _ rfl).1, (node 3 _ rfl).1, (node 4 _ rfl).1, (node 5 _ rfl).1⟩ map (hok.2.1.below bel) (fun q hq => (exts_keys oks q hq).below bel) (len_or' hok.1) (li_len hok) (by rw [show plOf a F.len = Li.pl ⟨a, F, c⟩ from rfl, hget]; rfl) noP_hp ?_))
    intro ws B v52 v53 v54 v55 v56 v57 hB hbs hRs
    refine ⟨fun _ e => (by cases e), ?_⟩
    have hr2 := res.below hbs res.lt
    have hrl := res.lt
    gi_wp2
    refine wpIn_noP (wpIn_wide.2 (ex16 (R := w.heap.size + 1) hRs hr2 (by omega) noP_hp ?_))
    intro w6 v58 v59 v60 v61 v62 v63 v64 hR6 hg6
    refine ⟨fun _ e => (by cases e), ?_⟩
    gi_wp2
    have hz6 := hg6.size
    have hBl := hRs.lt
    have hK6 : w6.heap[A5.heap.size]? = some (.deferred (some [])) := (hg6.block _ (by have := (Array.getElem?_eq_some_iff.1 hD).1; have := hbs.size; omega) (fun e => by have := Option.some.inj e; omega)).trans ((hbs.block _ (Array.getElem?_eq_some_iff.1 hD).1).trans hD)
    refine ⟨by simp, .inl ⟨_, _, rfl, run_takeDeferred hK6, ?_⟩⟩
    have c0 := cell_kept (hR6 0 _ rfl).1 (grownBy_putObj' _ A5.heap.size (.deferred none)) (fun r e => by cases e; exact ⟨_, hK6, rfl⟩)
    have c1 := cell_kept (hR6 1 _ rfl).1 (grownBy_putObj' _ A5.heap.size (.deferred none)) (fun r e => by cases e; exact ⟨_, hK6, rfl⟩)
    have hsz : F.size ≤ 1100000 := hok.2.2.2
    have hdp := F.deep_le
    have hB6 : Below w.heap.size w w6 := (bel.trans (hbs.mono bel.size)).grown hg6 (by have := bel.size; have := hbs.size; omega) (fun k hk => by have := Option.some.inj hk; omega)
    refine ⟨.agg #[.int .i64 (F.size + 1 : Nat), .int .i64 (F.deep + 1 : Nat)], ?_, rfl, hB6.trans (belowK_b (w := w) (Nat.le_refl _) w6 A5.heap.size _ _ (by omega) hK6 rfl rfl)⟩
    rw [upTo2_small (by omega)] at c0 c1
    simp [results, Try.results28, go_sem, c0, c1]
end Go.Proofs.Ytafhpplhlmlfhaa
/- How many values a value has: ValueSize of the program. -/
namespace Go.Proofs.Ytafhpplhlmlfhaa
open Go.RowKit
theorem Li.Ok.belowW {w w' : World} {x : Li} (h : x.Ok w) (hb : Below w.heap.size w w') : x.Ok w' := ⟨h.1.grow hb, h.2.1.below hb, h.2.2.1.below hb, h.2.2.2⟩
set_option maxRecDepth 100000 in
set_option maxHeartbeats 1000000 in
theorem iValueSize_any (hd : Hd) (a : Option Addr) (F : Vo) (c : Nat) (w : World) (hok : Li.Ok w ⟨a, F, c⟩) :
    Calls Try.prog 10 #[valV hd a F.len c] w fun r w' => r = .returned (.int .i64 (F.size + 1 : Nat)) ∧ Below w.heap.size w w' := by
  have hB0 := (Below.refl _ w).alloc (Nat.le_refl _) (.cells #[.int .i64 hd.k, .int .i64 hd.m, .int .i64 hd.e, .string hd.t, .slice a F.len c, .slice hd.na hd.ns.length hd.nc] 28)
  have hfld : ∀ (x y : Int) (W : World), (Instr.field 49 (.agg #[.int .i64 x, .int .i64 y]) 0).run Try.prog W = .ok (.int .i64 x) W := fun x y W => by kernel_rfl
  go_enter Try.func10, Try.ntmps10
  go_wp2_with fail
  refine (extentOf_any hd a F c _ (hok.belowW hB0)).mono ?_
  rintro r w1 ⟨rfl, hb1⟩
  have hB1 := hB0.trans (hb1.mono hB0.size)
  clear hb1 hB0 hok
  go_wp2_with fail
  go_ret
  exact ⟨rfl, hB1⟩
end Go.Proofs.Ytafhpplhlmlfhaa
