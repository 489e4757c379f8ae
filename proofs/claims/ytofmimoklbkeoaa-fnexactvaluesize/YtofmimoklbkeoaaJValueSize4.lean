/- My own texts, joined: Yi Yj Yk Yl LexA LexB LexC. -/
import Derived.Test.YtofmimoklbkeoaaJValueSize3
import Derived.Test.YtofmimoklbkeoaaRows
import Derived.WalkKit
import Derived.WalkSpells
import Derived.WalkLawsBesides
import Derived.Test.YtofmimoklbkeoaaJValueSize0
/- How many values a value has, by the program: the region of a round that looks a list's extent up. -/
namespace Go.Proofs.Ytofmimoklbkeoaa
open Go.RowKit
set_option maxRecDepth 100000 in
set_option maxHeartbeats 2000000 in
theorem ex8 {Q : Exit → Act → World → Prop} {l n : Nat} {t0 t1 t2 t4 t5 t6 t8 t9 t10 t11 t12 t13 t14 t15 t16 t17 t18 t19 t20 t21 t22 t23 t24 t25 t26 t27 t28 t29 t30 t31 t32 t33 t34 t35 t36 t37 t38 t39 t40 t41 t42 t43 t44 t45 t46 t47 t48 t49 t50 t51 t52 t53 t54 t55 t56 t57 t58 t59 t60 t61 t62 t63 t64 : Value} {W : World} {kb mb tb m c p q : Nat} {hd : Hd} {a : Option Addr} {L : List (Pl × Value)} {b : Bool}
    (hk : W.cell? ⟨kb, 0, none⟩ = some (.map (some mb))) (hT : (W.cell? ⟨tb, 0, none⟩ = some (.int .i64 hd.k) ∧ W.cell? ⟨tb, 1, none⟩ = some (.int .i64 hd.m) ∧ W.cell? ⟨tb, 2, none⟩ = some (.int .i64 hd.e) ∧ W.cell? ⟨tb, 3, none⟩ = some (.string hd.t) ∧ W.cell? ⟨tb, 4, none⟩ = some (.slice a m c) ∧ W.cell? ⟨tb, 5, none⟩ = some (.slice hd.na hd.ns.length hd.nc))) (hm : plKeysV.Is W mb L) (hok : PlOk W (plOf a m)) (hoks : ∀ q ∈ L, PlOk W q.1) (ha : m = 0 ∨ ∃ b o, a = some ⟨b, o, none⟩) (hml : m ≤ 2000000) (hg : (getL (plOf a m) L).getD (.agg #[.int .i64 0, .int .i64 0]) = (.agg #[.int .i64 p, .int .i64 q])) (hb : (getL (plOf a m) L).isSome = b)
    (hp : ∀ p d v a w, Q (.panic p) (Act.put a d v) w → Q (.panic p) a w) (h : ∀ ws B v21 v22 v23 v24 v25 v26 v27 v28 v29, W.heap.size ≤ B → Below W.heap.size W ws → Row ws B [.int .i64 p, .int .i64 q] → Q .normal { tmps := (t0 :: t1 :: t2 :: (.pointer (some ⟨kb, 0, none⟩)) :: t4 :: t5 :: t6 :: (.pointer (some ⟨tb, 0, none⟩)) :: (.pointer (some ⟨B, 0, none⟩)) :: (.bool b) :: t10 :: t11 :: t12 :: t13 :: t14 :: t15 :: t16 :: t17 :: t18 :: t19 :: t20 :: v21 :: v22 :: v23 :: v24 :: v25 :: v26 :: v27 :: v28 :: v29 :: t30 :: t31 :: t32 :: t33 :: t34 :: t35 :: t36 :: t37 :: t38 :: t39 :: t40 :: t41 :: t42 :: t43 :: t44 :: t45 :: t46 :: t47 :: t48 :: t49 :: t50 :: t51 :: t52 :: t53 :: t54 :: t55 :: t56 :: t57 :: t58 :: t59 :: t60 :: t61 :: t62 :: t63 :: t64 :: []).toArray, defers := [] } ws) :
    Code.wpIn (Fence.wide.inRound l) n Try.prog (Code.region 8 #[{ dst := some 22, op := Op.load 58 (Operand.tmp 3), type := 58, pos := "l3_tree.go:298", after := #[], guard := none }, { dst := some 23, op := Op.load 33 (Operand.tmp 7), type := 33, pos := "l3_tree.go:298", after := #[], guard := none }, { dst := some 24, op := Op.makeInterface 33 (Operand.tmp 23), type := 20, pos := "l3_tree.go:298", after := #[{ on := 1, ground := Ground.data }], guard := none }, { dst := some 25, op := Op.call { callee := Callee.invoke (Operand.tmp 24) "loop.example/chancery/impl.below", args := #[], argTypes := #[] }, type := 31, pos := "l3_tree.go:298", after := #[{ on := 2, ground := Ground.data }], guard := none }, { dst := some 26, op := Op.call { callee := Callee.value (Operand.func 44), args := #[Operand.tmp 25], argTypes := #[31] }, type := 65, pos := "l3_tree.go:298", after := #[{ on := 3, ground := Ground.data }, { on := 3, ground := Ground.chain }], guard := none }, { dst := some 27, op := Op.lookup 58 (Operand.tmp 22) (Operand.tmp 26) true, type := 62, pos := "l3_tree.go:298", after := #[{ on := 0, ground := Ground.data }, { on := 4, ground := Ground.data }], guard := none }, { dst := some 21, op := Op.move (Operand.tmp 27), type := 62, pos := "l3_tree.go:298", after := #[{ on := 5, ground := Ground.data }], guard := none }, { dst := some 28, op := Op.extract (Operand.tmp 21) 0, type := 49, pos := "l3_tree.go:298", after := #[{ on := 6, ground := Ground.data }], guard := none }, { dst := some 29, op := Op.extract (Operand.tmp 21) 1, type := 4, pos := "l3_tree.go:298", after := #[{ on := 6, ground := Ground.data }, { on := 10, ground := Ground.gcOnly Departure.lateStores }], guard := none }, { dst := some 8, op := Op.alloc 49, type := 0, pos := "l3_tree.go:298", after := #[], guard := none }, { dst := none, op := Op.store 49 (Operand.tmp 8) (Operand.tmp 28), type := 0, pos := "l3_tree.go:298", after := #[{ on := 9, ground := Ground.data }, { on := 7, ground := Ground.data }, { on := 4, ground := Ground.chain }, { on := 0, ground := Ground.phase }, { on := 1, ground := Ground.phase }, { on := 2, ground := Ground.phase }, { on := 3, ground := Ground.phase }, { on := 4, ground := Ground.phase }, { on := 5, ground := Ground.phase }, { on := 6, ground := Ground.phase }, { on := 7, ground := Ground.phase }, { on := 8, ground := Ground.textOnly Departure.lateStores }, { on := 9, ground := Ground.phase }], guard := none }, { dst := some 9, op := Op.assign (Operand.tmp 29), type := 4, pos := "l3_tree.go:298", after := #[{ on := 8, ground := Ground.data }, { on := 10, ground := Ground.chain }, { on := 0, ground := Ground.phase }, { on := 1, ground := Ground.phase }, { on := 2, ground := Ground.phase }, { on := 3, ground := Ground.phase }, { on := 4, ground := Ground.phase }, { on := 5, ground := Ground.phase }, { on := 6, ground := Ground.phase }, { on := 7, ground := Ground.phase }, { on := 8, ground := Ground.phase }, { on := 9, ground := Ground.phase }, { on := 10, ground := Ground.phase }], guard := none }] true) Q { tmps := (t0 :: t1 :: t2 :: (.pointer (some ⟨kb, 0, none⟩)) :: t4 :: t5 :: t6 :: (.pointer (some ⟨tb, 0, none⟩)) :: t8 :: t9 :: t10 :: t11 :: t12 :: t13 :: t14 :: t15 :: t16 :: t17 :: t18 :: t19 :: t20 :: t21 :: t22 :: t23 :: t24 :: t25 :: t26 :: t27 :: t28 :: t29 :: t30 :: t31 :: t32 :: t33 :: t34 :: t35 :: t36 :: t37 :: t38 :: t39 :: t40 :: t41 :: t42 :: t43 :: t44 :: t45 :: t46 :: t47 :: t48 :: t49 :: t50 :: t51 :: t52 :: t53 :: t54 :: t55 :: t56 :: t57 :: t58 :: t59 :: t60 :: t61 :: t62 :: t63 :: t64 :: []).toArray, defers := [] } W := by
  have hmeth := belowV_method
  have hB0 := (Below.refl W.heap.size W).drew
  have HSof : Hid (∀ w', Below W.heap.size W w' → w'.cell? ⟨kb, 0, none⟩ = some (.map (some mb)) ∧ (w'.cell? ⟨tb, 0, none⟩ = some (.int .i64 hd.k) ∧ w'.cell? ⟨tb, 1, none⟩ = some (.int .i64 hd.m) ∧ w'.cell? ⟨tb, 2, none⟩ = some (.int .i64 hd.e) ∧ w'.cell? ⟨tb, 3, none⟩ = some (.string hd.t) ∧ w'.cell? ⟨tb, 4, none⟩ = some (.slice a m c) ∧ w'.cell? ⟨tb, 5, none⟩ = some (.slice hd.na hd.ns.length hd.nc)) ∧ (Instr.lookup 58 (.map (some mb)) (.agg #[.pointer (plOf a m).1, .int .i64 (plOf a m).2]) true).run Try.prog w' = .ok (.tuple #[(.agg #[.int .i64 p, .int .i64 q]), .bool b]) w') := fun w' h => by
    have hk1 := World.block_lt_of_cell? _ _ hk
    have ht1 := World.block_lt_of_cell? _ _ hT.1
    have hmlt : mb < W.heap.size := by obtain ⟨es, clock, h, _⟩ := hm; exact (Array.getElem?_eq_some_iff.1 h).1
    have hz : (zeroValue 49).run Try.prog w' = .ok (.agg #[.int .i64 0, .int .i64 0]) w' := by kernel_rfl
    have hl := plKeysV.look2 (mty := 58) (et := 49) Try.underlying58 (plOf a m) (hok.below h) (fun q hq => (hoks q hq).below h) (hm.grown _ (h.block _ hmlt)) hz
    rw [hg, hb] at hl
    exact ⟨(h.cell (p := ⟨kb, 0, none⟩) hk1).trans hk, ⟨(h.cell (p := ⟨tb, 0, none⟩) ht1).trans hT.1, (h.cell (p := ⟨tb, 1, none⟩) ht1).trans hT.2.1, (h.cell (p := ⟨tb, 2, none⟩) ht1).trans hT.2.2.1, (h.cell (p := ⟨tb, 3, none⟩) ht1).trans hT.2.2.2.1, (h.cell (p := ⟨tb, 4, none⟩) ht1).trans hT.2.2.2.2.1, (h.cell (p := ⟨tb, 5, none⟩) ht1).trans hT.2.2.2.2.2⟩, hl⟩
  clear hk hT hm hok hoks hg hb
  refine wpIn_region_round2 (S := fun w' => Below W.heap.size W w') (by kernel_rfl) (by kernel_rfl) hB0 (fun hHeld => ?_)
  refine wpAnyH_take (i := 0) (v := .map (some mb)) rfl (by kernel_rfl) (by kernel_rfl) (by kernel_rfl) (fun _ _ _ h => ⟨h.1, hp _ _ _ _ _ h.2⟩) (Or.inl ⟨by rfl, ?_⟩) (by assumption) ?_
  · intro w hSw
    (try dsimp only at hSw)
    obtain ⟨f0, ⟨f1, f2, f3, f4, f5, f5b⟩, f6⟩ := HSof.out _ hSw
    go_simp
  (try simp only [Act.put, List.getElem_toArray, List.getElem_cons_zero, List.setIfInBounds_toArray, List.set_cons_zero, List.set_cons_succ])
  refine wpAnyH_take (i := 1) (v := valV hd a m c) rfl (by kernel_rfl) (by kernel_rfl) (by kernel_rfl) (fun _ _ _ h => ⟨h.1, hp _ _ _ _ _ h.2⟩) (Or.inl ⟨by rfl, ?_⟩) (by assumption) ?_
  · intro w hSw
    (try dsimp only at hSw)
    obtain ⟨f0, ⟨f1, f2, f3, f4, f5, f5b⟩, f6⟩ := HSof.out _ hSw
    go_simp
  (try simp only [Act.put, List.getElem_toArray, List.getElem_cons_zero, List.getElem_cons_succ, List.setIfInBounds_toArray, List.set_cons_zero, List.set_cons_succ])
  refine wpAnyH_take (i := 2) (v := .iface 33 (valV hd a m c)) rfl (by kernel_rfl) (by kernel_rfl) (by kernel_rfl) (fun _ _ _ h => ⟨h.1, hp _ _ _ _ _ h.2⟩) (Or.inl ⟨by rfl, ?_⟩) (by assumption) ?_
  · intro w hSw
    (try dsimp only at hSw)
    obtain ⟨f0, ⟨f1, f2, f3, f4, f5, f5b⟩, f6⟩ := HSof.out _ hSw
    go_simp
  (try simp only [Act.put, List.getElem_toArray, List.getElem_cons_zero, List.getElem_cons_succ, List.setIfInBounds_toArray, List.set_cons_zero, List.set_cons_succ])
  refine wpAnyH_ready (rs := [3, 9]) (by kernel_rfl) (by simp) ?_
  refine (AllReadyH.cons rfl (fun K hK => ?_) (AllReadyH.cons rfl (fun K hK => ?_) AllReadyH.nil))
  · go_simp
    refine (belowV_any hd a m c _).mono ?_
    rintro r w1 ⟨rfl, hb1⟩
    have hB1 := hB0.trans (hb1.mono hB0.size)
    go_wp2_with fail
    refine hK.out _ _ hB1 (fun hHeld => ?_)
    clear hK K
    refine wpAnyH_ready (rs := [4, 9]) (by kernel_rfl) (by simp) ?_
    refine (AllReadyH.cons rfl (fun K hK => ?_) (AllReadyH.cons rfl (fun K hK => ?_) AllReadyH.nil))
    · go_simp
      refine (placeOfV_any a m c _ ha hml).mono ?_
      rintro r w2 ⟨rfl, hb2⟩
      have hB2 := hB1.trans (hb2.mono hB1.size)
      go_wp2_with fail
      refine hK.out _ _ hB2 (fun hHeld => ?_)
      clear hK K
      unfold plV
      refine wpAnyH_take (i := 5) (v := .tuple #[(.agg #[.int .i64 p, .int .i64 q]), .bool b]) rfl (by kernel_rfl) (by kernel_rfl) (by kernel_rfl) (fun _ _ _ h => ⟨h.1, hp _ _ _ _ _ h.2⟩) (Or.inl ⟨by rfl, ?_⟩) (by assumption) ?_
      · intro w hSw
        (try dsimp only at hSw)
        obtain ⟨f0, ⟨f1, f2, f3, f4, f5, f5b⟩, f6⟩ := HSof.out _ hSw
        go_simp
      (try simp only [Act.put, List.getElem_toArray, List.getElem_cons_zero, List.getElem_cons_succ, List.setIfInBounds_toArray, List.set_cons_zero, List.set_cons_succ])
      refine wpAnyH_take (i := 6) (v := .tuple #[(.agg #[.int .i64 p, .int .i64 q]), .bool b]) rfl (by kernel_rfl) (by kernel_rfl) (by kernel_rfl) (fun _ _ _ h => ⟨h.1, hp _ _ _ _ _ h.2⟩) (Or.inl ⟨by rfl, ?_⟩) (by assumption) ?_
      · intro w hSw
        (try dsimp only at hSw)
        obtain ⟨f0, ⟨f1, f2, f3, f4, f5, f5b⟩, f6⟩ := HSof.out _ hSw
        go_simp
      (try simp only [Act.put, List.getElem_toArray, List.getElem_cons_zero, List.getElem_cons_succ, List.setIfInBounds_toArray, List.set_cons_zero, List.set_cons_succ])
      refine wpAnyH_take (i := 7) (v := (.agg #[.int .i64 p, .int .i64 q])) rfl (by kernel_rfl) (by kernel_rfl) (by kernel_rfl) (fun _ _ _ h => ⟨h.1, hp _ _ _ _ _ h.2⟩) (Or.inl ⟨by rfl, ?_⟩) (by assumption) ?_
      · intro w hSw
        (try dsimp only at hSw)
        obtain ⟨f0, ⟨f1, f2, f3, f4, f5, f5b⟩, f6⟩ := HSof.out _ hSw
        go_simp
      (try simp only [Act.put, List.getElem_toArray, List.getElem_cons_zero, List.getElem_cons_succ, List.setIfInBounds_toArray, List.set_cons_zero, List.set_cons_succ])
      refine wpAnyH_take (i := 8) (v := .bool b) rfl (by kernel_rfl) (by kernel_rfl) (by kernel_rfl) (fun _ _ _ h => ⟨h.1, hp _ _ _ _ _ h.2⟩) (Or.inl ⟨by rfl, ?_⟩) (by assumption) ?_
      · intro w hSw
        (try dsimp only at hSw)
        obtain ⟨f0, ⟨f1, f2, f3, f4, f5, f5b⟩, f6⟩ := HSof.out _ hSw
        go_simp
      (try simp only [Act.put, List.getElem_toArray, List.getElem_cons_zero, List.getElem_cons_succ, List.setIfInBounds_toArray, List.set_cons_zero, List.set_cons_succ])
      refine wpAnyH_ready (rs := [9]) (by kernel_rfl) (by simp) ?_
      refine (AllReadyH.cons rfl (fun K hK => ?_) AllReadyH.nil)
      · have RN := Row.new w2 [.int .i64 0, .int .i64 0] 49
        have hBA := hB2.alloc hB2.size (.cells #[.int .i64 0, .int .i64 0] 49)
        have hBg := hB2.size
        go_simp
        refine hK.out _ _ hBA (fun hHeld => ?_)
        clear hK K
        (try simp only [Act.put, List.getElem_toArray, List.getElem_cons_zero, List.getElem_cons_succ, List.setIfInBounds_toArray, List.set_cons_zero, List.set_cons_succ])
        obtain ⟨z0, z0f⟩ := RN 0 _ rfl
        obtain ⟨z1, z1f⟩ := RN 1 _ rfl
        have R1 := Row.new w2 [.int .i64 p, .int .i64 q] 49
        have hBs := hB2.alloc hB2.size (.cells #[.int .i64 p, .int .i64 q] 49)
        refine wpAnyH_ready (rs := [10]) (by kernel_rfl) (by simp) ?_
        refine (AllReadyH.cons rfl (fun K hK => ?_) AllReadyH.nil)
        · go_simp
          refine hK.out _ _ hBs (fun hHeld => ?_)
          clear hK K
          (try simp only [Act.put, List.getElem_toArray, List.getElem_cons_zero, List.getElem_cons_succ, List.setIfInBounds_toArray, List.set_cons_zero, List.set_cons_succ])
          refine wpAnyH_take (i := 11) (v := .bool b) rfl (by kernel_rfl) (by kernel_rfl) (by kernel_rfl) (fun _ _ _ h => ⟨h.1, hp _ _ _ _ _ h.2⟩) (Or.inl ⟨by rfl, ?_⟩) (by assumption) ?_
          · intro w hSw
            (try dsimp only at hSw)
            obtain ⟨f0, ⟨f1, f2, f3, f4, f5, f5b⟩, f6⟩ := HSof.out _ hSw
            go_simp
          (try simp only [Act.put, List.getElem_toArray, List.getElem_cons_zero, List.getElem_cons_succ, List.setIfInBounds_toArray, List.set_cons_zero, List.set_cons_succ])
          refine wpAnyH_done (by kernel_rfl) ?_ _
          exact ⟨(fun e => by cases e), h _ _ _ _ _ _ _ _ _ _ _ hBg hBs R1⟩
    · have RN := Row.new w1 [.int .i64 0, .int .i64 0] 49
      have hBA := hB1.alloc hB1.size (.cells #[.int .i64 0, .int .i64 0] 49)
      have hBg := hB1.size
      go_simp
      refine hK.out _ _ hBA (fun hHeld => ?_)
      clear hK K
      (try simp only [Act.put, List.getElem_toArray, List.getElem_cons_zero, List.getElem_cons_succ, List.setIfInBounds_toArray, List.set_cons_zero, List.set_cons_succ])
      refine wpAnyH_ready (rs := [4]) (by kernel_rfl) (by simp) ?_
      refine (AllReadyH.cons rfl (fun K hK => ?_) AllReadyH.nil)
      · go_simp
        refine (placeOfV_any a m c _ ha hml).mono ?_
        rintro r w2 ⟨rfl, hb2⟩
        have hB2 := hBA.trans (hb2.mono hBA.size)
        go_wp2_with fail
        refine hK.out _ _ hB2 (fun hHeld => ?_)
        clear hK K
        unfold plV
        have R2 := RN.below hb2 RN.lt
        refine wpAnyH_take (i := 5) (v := .tuple #[(.agg #[.int .i64 p, .int .i64 q]), .bool b]) rfl (by kernel_rfl) (by kernel_rfl) (by kernel_rfl) (fun _ _ _ h => ⟨h.1, hp _ _ _ _ _ h.2⟩) (Or.inl ⟨by rfl, ?_⟩) (by assumption) ?_
        · intro w hSw
          (try dsimp only at hSw)
          obtain ⟨f0, ⟨f1, f2, f3, f4, f5, f5b⟩, f6⟩ := HSof.out _ hSw
          go_simp
        (try simp only [Act.put, List.getElem_toArray, List.getElem_cons_zero, List.getElem_cons_succ, List.setIfInBounds_toArray, List.set_cons_zero, List.set_cons_succ])
        refine wpAnyH_take (i := 6) (v := .tuple #[(.agg #[.int .i64 p, .int .i64 q]), .bool b]) rfl (by kernel_rfl) (by kernel_rfl) (by kernel_rfl) (fun _ _ _ h => ⟨h.1, hp _ _ _ _ _ h.2⟩) (Or.inl ⟨by rfl, ?_⟩) (by assumption) ?_
        · intro w hSw
          (try dsimp only at hSw)
          obtain ⟨f0, ⟨f1, f2, f3, f4, f5, f5b⟩, f6⟩ := HSof.out _ hSw
          go_simp
        (try simp only [Act.put, List.getElem_toArray, List.getElem_cons_zero, List.getElem_cons_succ, List.setIfInBounds_toArray, List.set_cons_zero, List.set_cons_succ])
        refine wpAnyH_take (i := 7) (v := (.agg #[.int .i64 p, .int .i64 q])) rfl (by kernel_rfl) (by kernel_rfl) (by kernel_rfl) (fun _ _ _ h => ⟨h.1, hp _ _ _ _ _ h.2⟩) (Or.inl ⟨by rfl, ?_⟩) (by assumption) ?_
        · intro w hSw
          (try dsimp only at hSw)
          obtain ⟨f0, ⟨f1, f2, f3, f4, f5, f5b⟩, f6⟩ := HSof.out _ hSw
          go_simp
        (try simp only [Act.put, List.getElem_toArray, List.getElem_cons_zero, List.getElem_cons_succ, List.setIfInBounds_toArray, List.set_cons_zero, List.set_cons_succ])
        refine wpAnyH_take (i := 8) (v := .bool b) rfl (by kernel_rfl) (by kernel_rfl) (by kernel_rfl) (fun _ _ _ h => ⟨h.1, hp _ _ _ _ _ h.2⟩) (Or.inl ⟨by rfl, ?_⟩) (by assumption) ?_
        · intro w hSw
          (try dsimp only at hSw)
          obtain ⟨f0, ⟨f1, f2, f3, f4, f5, f5b⟩, f6⟩ := HSof.out _ hSw
          go_simp
        (try simp only [Act.put, List.getElem_toArray, List.getElem_cons_zero, List.getElem_cons_succ, List.setIfInBounds_toArray, List.set_cons_zero, List.set_cons_succ])
        have R1 := (R2.set (i := 0) (by decide) (.int .i64 p)).set (i := 1) (by simp) (.int .i64 q)
        obtain ⟨z0, z0f⟩ := R2 0 _ rfl
        obtain ⟨z1, z1f⟩ := R2 1 _ rfl
        have hBs := (hB2.setCell (p := ⟨w1.heap.size, 0, none⟩) hBg (.int .i64 p)).setCell (p := ⟨w1.heap.size, 1, none⟩) hBg (.int .i64 q)
        refine wpAnyH_ready (rs := [10]) (by kernel_rfl) (by simp) ?_
        refine (AllReadyH.cons rfl (fun K hK => ?_) AllReadyH.nil)
        · go_simp
          refine hK.out _ _ hBs (fun hHeld => ?_)
          clear hK K
          (try simp only [Act.put, List.getElem_toArray, List.getElem_cons_zero, List.getElem_cons_succ, List.setIfInBounds_toArray, List.set_cons_zero, List.set_cons_succ])
          refine wpAnyH_take (i := 11) (v := .bool b) rfl (by kernel_rfl) (by kernel_rfl) (by kernel_rfl) (fun _ _ _ h => ⟨h.1, hp _ _ _ _ _ h.2⟩) (Or.inl ⟨by rfl, ?_⟩) (by assumption) ?_
          · intro w hSw
            (try dsimp only at hSw)
            obtain ⟨f0, ⟨f1, f2, f3, f4, f5, f5b⟩, f6⟩ := HSof.out _ hSw
            go_simp
          (try simp only [Act.put, List.getElem_toArray, List.getElem_cons_zero, List.getElem_cons_succ, List.setIfInBounds_toArray, List.set_cons_zero, List.set_cons_succ])
          refine wpAnyH_done (by kernel_rfl) ?_ _
          exact ⟨(fun e => by cases e), h _ _ _ _ _ _ _ _ _ _ _ hBg hBs R1⟩
  · have RN := Row.new W.drew [.int .i64 0, .int .i64 0] 49
    have hBA := hB0.alloc hB0.size (.cells #[.int .i64 0, .int .i64 0] 49)
    have hBg := hB0.size
    go_simp
    refine hK.out _ _ hBA (fun hHeld => ?_)
    clear hK K
    (try simp only [Act.put, List.getElem_toArray, List.getElem_cons_zero, List.getElem_cons_succ, List.setIfInBounds_toArray, List.set_cons_zero, List.set_cons_succ])
    have RN' : Row _ W.heap.size _ := RN
    refine wpAnyH_ready (rs := [3]) (by kernel_rfl) (by simp) ?_
    refine (AllReadyH.cons rfl (fun K hK => ?_) AllReadyH.nil)
    · go_simp
      refine (belowV_any hd a m c _).mono ?_
      rintro r w1 ⟨rfl, hb1⟩
      have hB1 := hBA.trans (hb1.mono hBA.size)
      go_wp2_with fail
      refine hK.out _ _ hB1 (fun hHeld => ?_)
      clear hK K
      have R1' := RN'.below hb1 RN'.lt
      refine wpAnyH_ready (rs := [4]) (by kernel_rfl) (by simp) ?_
      refine (AllReadyH.cons rfl (fun K hK => ?_) AllReadyH.nil)
      · go_simp
        refine (placeOfV_any a m c _ ha hml).mono ?_
        rintro r w2 ⟨rfl, hb2⟩
        have hB2 := hB1.trans (hb2.mono hB1.size)
        go_wp2_with fail
        refine hK.out _ _ hB2 (fun hHeld => ?_)
        clear hK K
        unfold plV
        have R2 := R1'.below hb2 R1'.lt
        refine wpAnyH_take (i := 5) (v := .tuple #[(.agg #[.int .i64 p, .int .i64 q]), .bool b]) rfl (by kernel_rfl) (by kernel_rfl) (by kernel_rfl) (fun _ _ _ h => ⟨h.1, hp _ _ _ _ _ h.2⟩) (Or.inl ⟨by rfl, ?_⟩) (by assumption) ?_
        · intro w hSw
          (try dsimp only at hSw)
          obtain ⟨f0, ⟨f1, f2, f3, f4, f5, f5b⟩, f6⟩ := HSof.out _ hSw
          go_simp
        (try simp only [Act.put, List.getElem_toArray, List.getElem_cons_zero, List.getElem_cons_succ, List.setIfInBounds_toArray, List.set_cons_zero, List.set_cons_succ])
        refine wpAnyH_take (i := 6) (v := .tuple #[(.agg #[.int .i64 p, .int .i64 q]), .bool b]) rfl (by kernel_rfl) (by kernel_rfl) (by kernel_rfl) (fun _ _ _ h => ⟨h.1, hp _ _ _ _ _ h.2⟩) (Or.inl ⟨by rfl, ?_⟩) (by assumption) ?_
        · intro w hSw
          (try dsimp only at hSw)
          obtain ⟨f0, ⟨f1, f2, f3, f4, f5, f5b⟩, f6⟩ := HSof.out _ hSw
          go_simp
        (try simp only [Act.put, List.getElem_toArray, List.getElem_cons_zero, List.getElem_cons_succ, List.setIfInBounds_toArray, List.set_cons_zero, List.set_cons_succ])
        refine wpAnyH_take (i := 7) (v := (.agg #[.int .i64 p, .int .i64 q])) rfl (by kernel_rfl) (by kernel_rfl) (by kernel_rfl) (fun _ _ _ h => ⟨h.1, hp _ _ _ _ _ h.2⟩) (Or.inl ⟨by rfl, ?_⟩) (by assumption) ?_
        · intro w hSw
          (try dsimp only at hSw)
          obtain ⟨f0, ⟨f1, f2, f3, f4, f5, f5b⟩, f6⟩ := HSof.out _ hSw
          go_simp
        (try simp only [Act.put, List.getElem_toArray, List.getElem_cons_zero, List.getElem_cons_succ, List.setIfInBounds_toArray, List.set_cons_zero, List.set_cons_succ])
        refine wpAnyH_take (i := 8) (v := .bool b) rfl (by kernel_rfl) (by kernel_rfl) (by kernel_rfl) (fun _ _ _ h => ⟨h.1, hp _ _ _ _ _ h.2⟩) (Or.inl ⟨by rfl, ?_⟩) (by assumption) ?_
        · intro w hSw
          (try dsimp only at hSw)
          obtain ⟨f0, ⟨f1, f2, f3, f4, f5, f5b⟩, f6⟩ := HSof.out _ hSw
          go_simp
        (try simp only [Act.put, List.getElem_toArray, List.getElem_cons_zero, List.getElem_cons_succ, List.setIfInBounds_toArray, List.set_cons_zero, List.set_cons_succ])
        have R1 := (R2.set (i := 0) (by decide) (.int .i64 p)).set (i := 1) (by simp) (.int .i64 q)
        obtain ⟨z0, z0f⟩ := R2 0 _ rfl
        obtain ⟨z1, z1f⟩ := R2 1 _ rfl
        have hBs := (hB2.setCell (p := ⟨W.heap.size, 0, none⟩) hBg (.int .i64 p)).setCell (p := ⟨W.heap.size, 1, none⟩) hBg (.int .i64 q)
        refine wpAnyH_ready (rs := [10]) (by kernel_rfl) (by simp) ?_
        refine (AllReadyH.cons rfl (fun K hK => ?_) AllReadyH.nil)
        · go_simp
          refine hK.out _ _ hBs (fun hHeld => ?_)
          clear hK K
          (try simp only [Act.put, List.getElem_toArray, List.getElem_cons_zero, List.getElem_cons_succ, List.setIfInBounds_toArray, List.set_cons_zero, List.set_cons_succ])
          refine wpAnyH_take (i := 11) (v := .bool b) rfl (by kernel_rfl) (by kernel_rfl) (by kernel_rfl) (fun _ _ _ h => ⟨h.1, hp _ _ _ _ _ h.2⟩) (Or.inl ⟨by rfl, ?_⟩) (by assumption) ?_
          · intro w hSw
            (try dsimp only at hSw)
            obtain ⟨f0, ⟨f1, f2, f3, f4, f5, f5b⟩, f6⟩ := HSof.out _ hSw
            go_simp
          (try simp only [Act.put, List.getElem_toArray, List.getElem_cons_zero, List.getElem_cons_succ, List.setIfInBounds_toArray, List.set_cons_zero, List.set_cons_succ])
          refine wpAnyH_done (by kernel_rfl) ?_ _
          exact ⟨(fun e => by cases e), h _ _ _ _ _ _ _ _ _ _ _ hBg hBs R1⟩
end Go.Proofs.Ytofmimoklbkeoaa
/- How many values a value has, by the program: the regions behind the range. -/
namespace Go.Proofs.Ytofmimoklbkeoaa
open Go.RowKit
set_option maxRecDepth 100000 in
set_option maxHeartbeats 2000000 in
theorem ex15 {ds : List Deferred} {Q : Exit → Act → World → Prop} {t0 t2 t4 t5 t6 t7 t8 t9 t10 t11 t12 t13 t14 t15 t16 t17 t18 t19 t20 t21 t22 t23 t24 t25 t26 t27 t28 t29 t30 t31 t32 t33 t34 t35 t36 t37 t38 t39 t40 t41 t42 t43 t44 t45 t46 t47 t48 t49 t50 t51 t52 t53 t54 t55 t56 t57 t58 t59 t60 t61 t62 t63 t64 : Value} {W : World} {kb mb tb m c p q : Nat} {hd : Hd} {a : Option Addr} {L : List (Pl × Value)}
    (hk : W.cell? ⟨kb, 0, none⟩ = some (.map (some mb))) (hT : (W.cell? ⟨tb, 0, none⟩ = some (.int .i64 hd.k) ∧ W.cell? ⟨tb, 1, none⟩ = some (.int .i64 hd.m) ∧ W.cell? ⟨tb, 2, none⟩ = some (.int .i64 hd.e) ∧ W.cell? ⟨tb, 3, none⟩ = some (.string hd.t) ∧ W.cell? ⟨tb, 4, none⟩ = some (.slice a m c) ∧ W.cell? ⟨tb, 5, none⟩ = some (.slice hd.na hd.ns.length hd.nc))) (hm : plKeysV.Is W mb L) (hok : PlOk W (plOf a m)) (hoks : ∀ q ∈ L, PlOk W q.1) (ha : m = 0 ∨ ∃ b o, a = some ⟨b, o, none⟩) (hml : m ≤ 2000000) (hg : (getL (plOf a m) L).getD (.agg #[.int .i64 0, .int .i64 0]) = (.agg #[.int .i64 p, .int .i64 q]))
    (hp : ∀ p d v a w, Q (.panic p) (Act.put a d v) w → Q (.panic p) a w) (h : ∀ ws B v52 v53 v54 v55 v56 v57, W.heap.size ≤ B → Below W.heap.size W ws → Row ws B [.int .i64 p, .int .i64 q] → Q .normal { tmps := (t0 :: (.pointer (some ⟨tb, 0, none⟩)) :: t2 :: (.pointer (some ⟨kb, 0, none⟩)) :: t4 :: t5 :: t6 :: t7 :: t8 :: t9 :: (.pointer (some ⟨B, 0, none⟩)) :: t11 :: t12 :: t13 :: t14 :: t15 :: t16 :: t17 :: t18 :: t19 :: t20 :: t21 :: t22 :: t23 :: t24 :: t25 :: t26 :: t27 :: t28 :: t29 :: t30 :: t31 :: t32 :: t33 :: t34 :: t35 :: t36 :: t37 :: t38 :: t39 :: t40 :: t41 :: t42 :: t43 :: t44 :: t45 :: t46 :: t47 :: t48 :: t49 :: t50 :: t51 :: v52 :: v53 :: v54 :: v55 :: v56 :: v57 :: t58 :: t59 :: t60 :: t61 :: t62 :: t63 :: t64 :: []).toArray, defers := ds } ws) :
    Code.wp Try.prog (Code.region 15 #[{ dst := some 52, op := Op.load 58 (Operand.tmp 3), type := 58, pos := "l3_tree.go:307", after := #[], guard := none }, { dst := some 53, op := Op.load 33 (Operand.tmp 1), type := 33, pos := "l3_tree.go:307", after := #[], guard := none }, { dst := some 54, op := Op.makeInterface 33 (Operand.tmp 53), type := 20, pos := "l3_tree.go:307", after := #[{ on := 1, ground := Ground.data }], guard := none }, { dst := some 55, op := Op.call { callee := Callee.invoke (Operand.tmp 54) "loop.example/chancery/impl.below", args := #[], argTypes := #[] }, type := 31, pos := "l3_tree.go:307", after := #[{ on := 2, ground := Ground.data }], guard := none }, { dst := some 56, op := Op.call { callee := Callee.value (Operand.func 44), args := #[Operand.tmp 55], argTypes := #[31] }, type := 65, pos := "l3_tree.go:307", after := #[{ on := 3, ground := Ground.data }, { on := 3, ground := Ground.chain }], guard := none }, { dst := some 57, op := Op.lookup 58 (Operand.tmp 52) (Operand.tmp 56) false, type := 49, pos := "l3_tree.go:307", after := #[{ on := 0, ground := Ground.data }, { on := 4, ground := Ground.data }], guard := none }, { dst := some 10, op := Op.alloc 49, type := 0, pos := "l3_tree.go:307", after := #[], guard := none }, { dst := none, op := Op.store 49 (Operand.tmp 10) (Operand.tmp 57), type := 0, pos := "l3_tree.go:307", after := #[{ on := 6, ground := Ground.data }, { on := 5, ground := Ground.data }, { on := 4, ground := Ground.chain }, { on := 0, ground := Ground.phase }, { on := 1, ground := Ground.phase }, { on := 2, ground := Ground.phase }, { on := 3, ground := Ground.phase }, { on := 4, ground := Ground.phase }, { on := 5, ground := Ground.phase }, { on := 6, ground := Ground.phase }], guard := none }] true) Q { tmps := (t0 :: (.pointer (some ⟨tb, 0, none⟩)) :: t2 :: (.pointer (some ⟨kb, 0, none⟩)) :: t4 :: t5 :: t6 :: t7 :: t8 :: t9 :: t10 :: t11 :: t12 :: t13 :: t14 :: t15 :: t16 :: t17 :: t18 :: t19 :: t20 :: t21 :: t22 :: t23 :: t24 :: t25 :: t26 :: t27 :: t28 :: t29 :: t30 :: t31 :: t32 :: t33 :: t34 :: t35 :: t36 :: t37 :: t38 :: t39 :: t40 :: t41 :: t42 :: t43 :: t44 :: t45 :: t46 :: t47 :: t48 :: t49 :: t50 :: t51 :: t52 :: t53 :: t54 :: t55 :: t56 :: t57 :: t58 :: t59 :: t60 :: t61 :: t62 :: t63 :: t64 :: []).toArray, defers := ds } W := by
  have hmeth := belowV_method
  have hB0 := (Below.refl W.heap.size W).drew
  have HSof : Hid (∀ w', Below W.heap.size W w' → w'.cell? ⟨kb, 0, none⟩ = some (.map (some mb)) ∧ (w'.cell? ⟨tb, 0, none⟩ = some (.int .i64 hd.k) ∧ w'.cell? ⟨tb, 1, none⟩ = some (.int .i64 hd.m) ∧ w'.cell? ⟨tb, 2, none⟩ = some (.int .i64 hd.e) ∧ w'.cell? ⟨tb, 3, none⟩ = some (.string hd.t) ∧ w'.cell? ⟨tb, 4, none⟩ = some (.slice a m c) ∧ w'.cell? ⟨tb, 5, none⟩ = some (.slice hd.na hd.ns.length hd.nc)) ∧ (Instr.lookup 58 (.map (some mb)) (.agg #[.pointer (plOf a m).1, .int .i64 (plOf a m).2]) false).run Try.prog w' = .ok (.agg #[.int .i64 p, .int .i64 q]) w') := fun w' h => by
    have hk1 := World.block_lt_of_cell? _ _ hk
    have ht1 := World.block_lt_of_cell? _ _ hT.1
    have hmlt : mb < W.heap.size := by obtain ⟨es, clock, h, _⟩ := hm; exact (Array.getElem?_eq_some_iff.1 h).1
    have hz : (zeroValue 49).run Try.prog w' = .ok (.agg #[.int .i64 0, .int .i64 0]) w' := by kernel_rfl
    have hl := plKeysV.look (mty := 58) (et := 49) Try.underlying58 (plOf a m) (hok.below h) (fun q hq => (hoks q hq).below h) (hm.grown _ (h.block _ hmlt)) hz
    rw [hg] at hl
    exact ⟨(h.cell (p := ⟨kb, 0, none⟩) hk1).trans hk, ⟨(h.cell (p := ⟨tb, 0, none⟩) ht1).trans hT.1, (h.cell (p := ⟨tb, 1, none⟩) ht1).trans hT.2.1, (h.cell (p := ⟨tb, 2, none⟩) ht1).trans hT.2.2.1, (h.cell (p := ⟨tb, 3, none⟩) ht1).trans hT.2.2.2.1, (h.cell (p := ⟨tb, 4, none⟩) ht1).trans hT.2.2.2.2.1, (h.cell (p := ⟨tb, 5, none⟩) ht1).trans hT.2.2.2.2.2⟩, hl⟩
  clear hk hT hm hok hoks hg
  refine wp_region_held_drew (S := fun w' => Below W.heap.size W w') (by kernel_rfl) hB0 (fun hHeld => ?_)
  refine wpAnyH_take (i := 0) (v := .map (some mb)) rfl (by kernel_rfl) (by kernel_rfl) (by kernel_rfl) (fun _ _ _ h => hp _ _ _ _ _ h) (Or.inl ⟨by rfl, ?_⟩) (by assumption) ?_
  · intro w hSw
    (try dsimp only at hSw)
    obtain ⟨f0, ⟨f1, f2, f3, f4, f5, f5b⟩, f6⟩ := HSof.out _ hSw
    go_simp
  (try simp only [Act.put, List.getElem_toArray, List.getElem_cons_zero, List.setIfInBounds_toArray, List.set_cons_zero, List.set_cons_succ])
  refine wpAnyH_take (i := 1) (v := valV hd a m c) rfl (by kernel_rfl) (by kernel_rfl) (by kernel_rfl) (fun _ _ _ h => hp _ _ _ _ _ h) (Or.inl ⟨by rfl, ?_⟩) (by assumption) ?_
  · intro w hSw
    (try dsimp only at hSw)
    obtain ⟨f0, ⟨f1, f2, f3, f4, f5, f5b⟩, f6⟩ := HSof.out _ hSw
    go_simp
  (try simp only [Act.put, List.getElem_toArray, List.getElem_cons_zero, List.getElem_cons_succ, List.setIfInBounds_toArray, List.set_cons_zero, List.set_cons_succ])
  refine wpAnyH_take (i := 2) (v := .iface 33 (valV hd a m c)) rfl (by kernel_rfl) (by kernel_rfl) (by kernel_rfl) (fun _ _ _ h => hp _ _ _ _ _ h) (Or.inl ⟨by rfl, ?_⟩) (by assumption) ?_
  · intro w hSw
    (try dsimp only at hSw)
    obtain ⟨f0, ⟨f1, f2, f3, f4, f5, f5b⟩, f6⟩ := HSof.out _ hSw
    go_simp
  (try simp only [Act.put, List.getElem_toArray, List.getElem_cons_zero, List.getElem_cons_succ, List.setIfInBounds_toArray, List.set_cons_zero, List.set_cons_succ])
  refine wpAnyH_ready (rs := [3, 6]) (by kernel_rfl) (by simp) ?_
  refine (AllReadyH.cons rfl (fun K hK => ?_) (AllReadyH.cons rfl (fun K hK => ?_) AllReadyH.nil))
  · go_simp
    refine (belowV_any hd a m c _).mono ?_
    rintro r w1 ⟨rfl, hb1⟩
    have hB1 := hB0.trans (hb1.mono hB0.size)
    go_wp2_with fail
    refine hK.out _ _ hB1 (fun hHeld => ?_)
    clear hK K
    refine wpAnyH_ready (rs := [4, 6]) (by kernel_rfl) (by simp) ?_
    refine (AllReadyH.cons rfl (fun K hK => ?_) (AllReadyH.cons rfl (fun K hK => ?_) AllReadyH.nil))
    · go_simp
      refine (placeOfV_any a m c _ ha hml).mono ?_
      rintro r w2 ⟨rfl, hb2⟩
      have hB2 := hB1.trans (hb2.mono hB1.size)
      go_wp2_with fail
      refine hK.out _ _ hB2 (fun hHeld => ?_)
      clear hK K
      unfold plV
      refine wpAnyH_take (i := 5) (v := (.agg #[.int .i64 p, .int .i64 q])) rfl (by kernel_rfl) (by kernel_rfl) (by kernel_rfl) (fun _ _ _ h => hp _ _ _ _ _ h) (Or.inl ⟨by rfl, ?_⟩) (by assumption) ?_
      · intro w hSw
        (try dsimp only at hSw)
        obtain ⟨f0, ⟨f1, f2, f3, f4, f5, f5b⟩, f6⟩ := HSof.out _ hSw
        go_simp
      (try simp only [Act.put, List.getElem_toArray, List.getElem_cons_zero, List.getElem_cons_succ, List.setIfInBounds_toArray, List.set_cons_zero, List.set_cons_succ])
      refine wpAnyH_ready (rs := [6]) (by kernel_rfl) (by simp) ?_
      refine (AllReadyH.cons rfl (fun K hK => ?_) AllReadyH.nil)
      · have RN := Row.new w2 [.int .i64 0, .int .i64 0] 49
        have hBA := hB2.alloc hB2.size (.cells #[.int .i64 0, .int .i64 0] 49)
        have hBg := hB2.size
        go_simp
        refine hK.out _ _ hBA (fun hHeld => ?_)
        clear hK K
        (try simp only [Act.put, List.getElem_toArray, List.getElem_cons_zero, List.getElem_cons_succ, List.setIfInBounds_toArray, List.set_cons_zero, List.set_cons_succ])
        obtain ⟨z0, z0f⟩ := RN 0 _ rfl
        obtain ⟨z1, z1f⟩ := RN 1 _ rfl
        have R1 := Row.new w2 [.int .i64 p, .int .i64 q] 49
        have hBs := hB2.alloc hB2.size (.cells #[.int .i64 p, .int .i64 q] 49)
        refine wpAnyH_ready (rs := [7]) (by kernel_rfl) (by simp) ?_
        refine (AllReadyH.cons rfl (fun K hK => ?_) AllReadyH.nil)
        · go_simp
          refine hK.out _ _ hBs (fun hHeld => ?_)
          clear hK K
          (try simp only [Act.put, List.getElem_toArray, List.getElem_cons_zero, List.getElem_cons_succ, List.setIfInBounds_toArray, List.set_cons_zero, List.set_cons_succ])
          refine wpAnyH_done (by kernel_rfl) ?_ _
          exact h _ _ _ _ _ _ _ _ hBg hBs R1
    · have RN := Row.new w1 [.int .i64 0, .int .i64 0] 49
      have hBA := hB1.alloc hB1.size (.cells #[.int .i64 0, .int .i64 0] 49)
      have hBg := hB1.size
      go_simp
      refine hK.out _ _ hBA (fun hHeld => ?_)
      clear hK K
      (try simp only [Act.put, List.getElem_toArray, List.getElem_cons_zero, List.getElem_cons_succ, List.setIfInBounds_toArray, List.set_cons_zero, List.set_cons_succ])
      refine wpAnyH_ready (rs := [4]) (by kernel_rfl) (by simp) ?_
      refine (AllReadyH.cons rfl (fun K hK => ?_) AllReadyH.nil)
      · go_simp
        refine (placeOfV_any a m c _ ha hml).mono ?_
        rintro r w2 ⟨rfl, hb2⟩
        have hB2 := hBA.trans (hb2.mono hBA.size)
        go_wp2_with fail
        refine hK.out _ _ hB2 (fun hHeld => ?_)
        clear hK K
        unfold plV
        have R2 := RN.below hb2 RN.lt
        refine wpAnyH_take (i := 5) (v := (.agg #[.int .i64 p, .int .i64 q])) rfl (by kernel_rfl) (by kernel_rfl) (by kernel_rfl) (fun _ _ _ h => hp _ _ _ _ _ h) (Or.inl ⟨by rfl, ?_⟩) (by assumption) ?_
        · intro w hSw
          (try dsimp only at hSw)
          obtain ⟨f0, ⟨f1, f2, f3, f4, f5, f5b⟩, f6⟩ := HSof.out _ hSw
          go_simp
        (try simp only [Act.put, List.getElem_toArray, List.getElem_cons_zero, List.getElem_cons_succ, List.setIfInBounds_toArray, List.set_cons_zero, List.set_cons_succ])
        have R1 := (R2.set (i := 0) (by decide) (.int .i64 p)).set (i := 1) (by simp) (.int .i64 q)
        obtain ⟨z0, z0f⟩ := R2 0 _ rfl
        obtain ⟨z1, z1f⟩ := R2 1 _ rfl
        have hBs := (hB2.setCell (p := ⟨w1.heap.size, 0, none⟩) hBg (.int .i64 p)).setCell (p := ⟨w1.heap.size, 1, none⟩) hBg (.int .i64 q)
        refine wpAnyH_ready (rs := [7]) (by kernel_rfl) (by simp) ?_
        refine (AllReadyH.cons rfl (fun K hK => ?_) AllReadyH.nil)
        · go_simp
          refine hK.out _ _ hBs (fun hHeld => ?_)
          clear hK K
          (try simp only [Act.put, List.getElem_toArray, List.getElem_cons_zero, List.getElem_cons_succ, List.setIfInBounds_toArray, List.set_cons_zero, List.set_cons_succ])
          refine wpAnyH_done (by kernel_rfl) ?_ _
          exact h _ _ _ _ _ _ _ _ hBg hBs R1
  · have RN := Row.new W.drew [.int .i64 0, .int .i64 0] 49
    have hBA := hB0.alloc hB0.size (.cells #[.int .i64 0, .int .i64 0] 49)
    have hBg := hB0.size
    go_simp
    refine hK.out _ _ hBA (fun hHeld => ?_)
    clear hK K
    (try simp only [Act.put, List.getElem_toArray, List.getElem_cons_zero, List.getElem_cons_succ, List.setIfInBounds_toArray, List.set_cons_zero, List.set_cons_succ])
    have RN' : Row _ W.heap.size _ := RN
    refine wpAnyH_ready (rs := [3]) (by kernel_rfl) (by simp) ?_
    refine (AllReadyH.cons rfl (fun K hK => ?_) AllReadyH.nil)
    · go_simp
      refine (belowV_any hd a m c _).mono ?_
      rintro r w1 ⟨rfl, hb1⟩
      have hB1 := hBA.trans (hb1.mono hBA.size)
      go_wp2_with fail
      refine hK.out _ _ hB1 (fun hHeld => ?_)
      clear hK K
      have R1' := RN'.below hb1 RN'.lt
      refine wpAnyH_ready (rs := [4]) (by kernel_rfl) (by simp) ?_
      refine (AllReadyH.cons rfl (fun K hK => ?_) AllReadyH.nil)
      · go_simp
        refine (placeOfV_any a m c _ ha hml).mono ?_
        rintro r w2 ⟨rfl, hb2⟩
        have hB2 := hB1.trans (hb2.mono hB1.size)
        go_wp2_with fail
        refine hK.out _ _ hB2 (fun hHeld => ?_)
        clear hK K
        unfold plV
        have R2 := R1'.below hb2 R1'.lt
        refine wpAnyH_take (i := 5) (v := (.agg #[.int .i64 p, .int .i64 q])) rfl (by kernel_rfl) (by kernel_rfl) (by kernel_rfl) (fun _ _ _ h => hp _ _ _ _ _ h) (Or.inl ⟨by rfl, ?_⟩) (by assumption) ?_
        · intro w hSw
          (try dsimp only at hSw)
          obtain ⟨f0, ⟨f1, f2, f3, f4, f5, f5b⟩, f6⟩ := HSof.out _ hSw
          go_simp
        (try simp only [Act.put, List.getElem_toArray, List.getElem_cons_zero, List.getElem_cons_succ, List.setIfInBounds_toArray, List.set_cons_zero, List.set_cons_succ])
        have R1 := (R2.set (i := 0) (by decide) (.int .i64 p)).set (i := 1) (by simp) (.int .i64 q)
        obtain ⟨z0, z0f⟩ := R2 0 _ rfl
        obtain ⟨z1, z1f⟩ := R2 1 _ rfl
        have hBs := (hB2.setCell (p := ⟨W.heap.size, 0, none⟩) hBg (.int .i64 p)).setCell (p := ⟨W.heap.size, 1, none⟩) hBg (.int .i64 q)
        refine wpAnyH_ready (rs := [7]) (by kernel_rfl) (by simp) ?_
        refine (AllReadyH.cons rfl (fun K hK => ?_) AllReadyH.nil)
        · go_simp
          refine hK.out _ _ hBs (fun hHeld => ?_)
          clear hK K
          (try simp only [Act.put, List.getElem_toArray, List.getElem_cons_zero, List.getElem_cons_succ, List.setIfInBounds_toArray, List.set_cons_zero, List.set_cons_succ])
          refine wpAnyH_done (by kernel_rfl) ?_ _
          exact h _ _ _ _ _ _ _ _ hBg hBs R1
end Go.Proofs.Ytofmimoklbkeoaa
/- How many values a value has, by the program: the last region. -/
namespace Go.Proofs.Ytofmimoklbkeoaa
open Go.RowKit
theorem grownBy_setC (w : World) (b i : Nat) (v : Value) : w.grownBy (w.setCell ⟨b, i, none⟩ v) (some b) :=
  ⟨rfl, rfl, rfl, by simp [World.setCell], fun k _ hk => Below.heap_setCell _ _ _ k (fun e => hk (by rw [e]))⟩
set_option maxRecDepth 100000 in
set_option maxHeartbeats 1000000 in
theorem ex16 {ds : List Deferred} {Q : Exit → Act → World → Prop} {t0 t1 t3 t4 t5 t6 t7 t8 t9 t11 t12 t13 t14 t15 t16 t17 t18 t19 t20 t21 t22 t23 t24 t25 t26 t27 t28 t29 t30 t31 t32 t33 t34 t35 t36 t37 t38 t39 t40 t41 t42 t43 t44 t45 t46 t47 t48 t49 t50 t51 t52 t53 t54 t55 t56 t57 t58 t59 t60 t61 t62 t63 t64 : Value} {W : World} {R C p q : Nat} {u0 u1 : Value}
    (RC : Row W C [.int .i64 p, .int .i64 q]) (RR : Row W R [u0, u1]) (hne : ¬ C = R)
    (hp : ∀ p d v a w, Q (.panic p) (Act.put a d v) w → Q (.panic p) a w) (h : ∀ ws v58 v59 v60 v61 v62 v63 v64, Row ws R [(.int .i64 (upTo2 p 1 : Nat)), (.int .i64 (upTo2 q 1 : Nat))] → W.grownBy ws (some R) → Q .normal { tmps := (t0 :: t1 :: (.pointer (some ⟨R, 0, none⟩)) :: t3 :: t4 :: t5 :: t6 :: t7 :: t8 :: t9 :: (.pointer (some ⟨C, 0, none⟩)) :: t11 :: t12 :: t13 :: t14 :: t15 :: t16 :: t17 :: t18 :: t19 :: t20 :: t21 :: t22 :: t23 :: t24 :: t25 :: t26 :: t27 :: t28 :: t29 :: t30 :: t31 :: t32 :: t33 :: t34 :: t35 :: t36 :: t37 :: t38 :: t39 :: t40 :: t41 :: t42 :: t43 :: t44 :: t45 :: t46 :: t47 :: t48 :: t49 :: t50 :: t51 :: t52 :: t53 :: t54 :: t55 :: t56 :: t57 :: v58 :: v59 :: v60 :: v61 :: v62 :: v63 :: v64 :: []).toArray, defers := ds } ws) :
    Code.wp Try.prog (Code.region 16 #[{ dst := some 58, op := Op.fieldAddr 49 (Operand.tmp 10) 0, type := 0, pos := "l3_tree.go:308", after := #[], guard := none }, { dst := some 59, op := Op.load 3 (Operand.tmp 58), type := 3, pos := "l3_tree.go:308", after := #[{ on := 0, ground := Ground.data }], guard := none }, { dst := some 60, op := Op.call { callee := Callee.value (Operand.func 45), args := #[Operand.tmp 59, Operand.const (Value.int IntKind.i64 1)], argTypes := #[3, 3] }, type := 3, pos := "l3_tree.go:308", after := #[{ on := 1, ground := Ground.data }], guard := none }, { dst := some 61, op := Op.fieldAddr 49 (Operand.tmp 10) 1, type := 0, pos := "l3_tree.go:308", after := #[], guard := none }, { dst := some 62, op := Op.load 3 (Operand.tmp 61), type := 3, pos := "l3_tree.go:308", after := #[{ on := 3, ground := Ground.data }], guard := none }, { dst := some 63, op := Op.call { callee := Callee.value (Operand.func 45), args := #[Operand.tmp 62, Operand.const (Value.int IntKind.i64 1)], argTypes := #[3, 3] }, type := 3, pos := "l3_tree.go:308", after := #[{ on := 4, ground := Ground.data }, { on := 2, ground := Ground.chain }], guard := none }, { dst := some 64, op := Op.build 49 #[(0, Operand.tmp 60), (1, Operand.tmp 63)], type := 49, pos := "l3_tree.go:308", after := #[{ on := 2, ground := Ground.data }, { on := 5, ground := Ground.data }], guard := none }, { dst := none, op := Op.store 49 (Operand.tmp 2) (Operand.tmp 64), type := 0, pos := "l3_tree.go:308", after := #[{ on := 6, ground := Ground.data }, { on := 5, ground := Ground.chain }, { on := 0, ground := Ground.phase }, { on := 1, ground := Ground.phase }, { on := 2, ground := Ground.phase }, { on := 3, ground := Ground.phase }, { on := 4, ground := Ground.phase }, { on := 5, ground := Ground.phase }, { on := 6, ground := Ground.phase }], guard := none }] true) Q { tmps := (t0 :: t1 :: (.pointer (some ⟨R, 0, none⟩)) :: t3 :: t4 :: t5 :: t6 :: t7 :: t8 :: t9 :: (.pointer (some ⟨C, 0, none⟩)) :: t11 :: t12 :: t13 :: t14 :: t15 :: t16 :: t17 :: t18 :: t19 :: t20 :: t21 :: t22 :: t23 :: t24 :: t25 :: t26 :: t27 :: t28 :: t29 :: t30 :: t31 :: t32 :: t33 :: t34 :: t35 :: t36 :: t37 :: t38 :: t39 :: t40 :: t41 :: t42 :: t43 :: t44 :: t45 :: t46 :: t47 :: t48 :: t49 :: t50 :: t51 :: t52 :: t53 :: t54 :: t55 :: t56 :: t57 :: t58 :: t59 :: t60 :: t61 :: t62 :: t63 :: t64 :: []).toArray, defers := ds } W := by
  have hC0 := (RC 0 _ rfl).1
  have hC1 := (RC 1 _ rfl).1
  have hCl := RC.lt
  have hRl := RR.lt
  have HR : Hid (Row W R [u0, u1]) := RR
  have HRC : Hid (Row W C [.int .i64 p, .int .i64 q]) := RC
  have hB0 := (Below.refl W.heap.size W).drew
  have HSof : Hid (∀ w', Below W.heap.size W w' → w'.cell? ⟨C, 0, none⟩ = some (.int .i64 p) ∧ w'.cell? ⟨C, 1, none⟩ = some (.int .i64 q)) := fun w' h => ⟨(h.cell (p := ⟨C, 0, none⟩) hCl).trans hC0, (h.cell (p := ⟨C, 1, none⟩) hCl).trans hC1⟩
  have hS0 := HSof.out _ hB0
  clear RC RR hC0 hC1
  refine wp_region_held_drew (S := fun w' => w'.cell? ⟨C, 0, none⟩ = some (.int .i64 p) ∧ w'.cell? ⟨C, 1, none⟩ = some (.int .i64 q)) (by kernel_rfl) hS0 (fun hHeld => ?_)
  refine wpAnyH_take (i := 0) (v := .pointer (some ⟨C, 0, none⟩)) rfl (by kernel_rfl) (by kernel_rfl) (by kernel_rfl) (fun _ _ _ h => hp _ _ _ _ _ h) (Or.inl ⟨by rfl, ?_⟩) (by assumption) ?_
  · intro w hSw
    (try dsimp only at hSw)
    go_simp
  (try simp only [Act.put, List.getElem_toArray, List.getElem_cons_zero, List.setIfInBounds_toArray, List.set_cons_zero, List.set_cons_succ])
  refine wpAnyH_take (i := 1) (v := .int .i64 p) rfl (by kernel_rfl) (by kernel_rfl) (by kernel_rfl) (fun _ _ _ h => hp _ _ _ _ _ h) (Or.inl ⟨by rfl, ?_⟩) (by assumption) ?_
  · intro w hSw
    (try dsimp only at hSw)
    go_simp
  (try simp only [Act.put, List.getElem_toArray, List.getElem_cons_zero, List.getElem_cons_succ, List.setIfInBounds_toArray, List.set_cons_zero, List.set_cons_succ])
  refine wpAnyH_take (i := 3) (v := .pointer (some ⟨C, 1, none⟩)) rfl (by kernel_rfl) (by kernel_rfl) (by kernel_rfl) (fun _ _ _ h => hp _ _ _ _ _ h) (Or.inl ⟨by rfl, ?_⟩) (by assumption) ?_
  · intro w hSw
    (try dsimp only at hSw)
    go_simp
  (try simp only [Act.put, List.getElem_toArray, List.getElem_cons_zero, List.getElem_cons_succ, List.setIfInBounds_toArray, List.set_cons_zero, List.set_cons_succ])
  refine wpAnyH_take (i := 4) (v := .int .i64 q) rfl (by kernel_rfl) (by kernel_rfl) (by kernel_rfl) (fun _ _ _ h => hp _ _ _ _ _ h) (Or.inl ⟨by rfl, ?_⟩) (by assumption) ?_
  · intro w hSw
    (try dsimp only at hSw)
    go_simp
  (try simp only [Act.put, List.getElem_toArray, List.getElem_cons_zero, List.getElem_cons_succ, List.setIfInBounds_toArray, List.set_cons_zero, List.set_cons_succ])
  refine wpAnyH_ready (rs := [2]) (by kernel_rfl) (by simp) ?_
  refine (AllReadyH.cons rfl (fun K hK => ?_) AllReadyH.nil)
  · go_simp
    refine (sumUpTo_any p 1 _ (by omega)).mono ?_
    rintro r w1 ⟨rfl, hb1⟩
    have hB1 := hB0.trans (hb1.mono hB0.size)
    go_wp2_with fail
    refine hK.out _ _ (HSof.out _ hB1) (fun hHeld => ?_)
    clear hK K
    refine wpAnyH_ready (rs := [5]) (by kernel_rfl) (by simp) ?_
    refine (AllReadyH.cons rfl (fun K hK => ?_) AllReadyH.nil)
    · go_simp
      refine (sumUpTo_any q 1 _ (by omega)).mono ?_
      rintro r w2 ⟨rfl, hb2⟩
      have hB2 := hB1.trans (hb2.mono hB1.size)
      go_wp2_with fail
      refine hK.out _ _ (HSof.out _ hB2) (fun hHeld => ?_)
      clear hK K
      refine wpAnyH_take (i := 6) (v := .agg #[(.int .i64 (upTo2 p 1 : Nat)), (.int .i64 (upTo2 q 1 : Nat))]) rfl (by kernel_rfl) (by kernel_rfl) (by kernel_rfl) (fun _ _ _ h => hp _ _ _ _ _ h) (Or.inl ⟨by rfl, ?_⟩) (by assumption) ?_
      · intro w hSw
        (try dsimp only at hSw)
        go_simp
      (try simp only [Act.put, List.getElem_toArray, List.getElem_cons_zero, List.getElem_cons_succ, List.setIfInBounds_toArray, List.set_cons_zero, List.set_cons_succ])
      have R2 := HR.out.below hB2 hRl
      obtain ⟨z0, z0f⟩ := R2 0 _ rfl
      obtain ⟨z1, z1f⟩ := R2 1 _ rfl
      have R3 := (R2.set (i := 0) (by simp) (.int .i64 (upTo2 p 1 : Nat))).set (i := 1) (by simp) (.int .i64 (upTo2 q 1 : Nat))
      have hS3 : (fun w' => w'.cell? ⟨C, 0, none⟩ = some (.int .i64 p) ∧ w'.cell? ⟨C, 1, none⟩ = some (.int .i64 q)) ((w2.setCell ⟨R, 0, none⟩ (.int .i64 (upTo2 p 1 : Nat))).setCell ⟨R, 1, none⟩ (.int .i64 (upTo2 q 1 : Nat))) := by
        have h2 := ((HRC.out.below hB2 hCl).setOther hne 0 (.int .i64 (upTo2 p 1 : Nat))).setOther hne 1 (.int .i64 (upTo2 q 1 : Nat))
        exact ⟨(h2 0 _ rfl).1, (h2 1 _ rfl).1⟩
      have hG : W.grownBy ((w2.setCell ⟨R, 0, none⟩ (.int .i64 (upTo2 p 1 : Nat))).setCell ⟨R, 1, none⟩ (.int .i64 (upTo2 q 1 : Nat))) (some R) := by
        refine grown_trans ⟨hB2.os, hB2.tape, hB2.output, hB2.size, fun k hk _ => hB2.block k hk⟩ (grown_trans (b := w2.setCell ⟨R, 0, none⟩ (.int .i64 (upTo2 p 1 : Nat))) ?_ ?_)
        · exact grownBy_setC _ _ _ _
        · exact grownBy_setC _ _ _ _
      refine wpAnyH_ready (rs := [7]) (by kernel_rfl) (by simp) ?_
      refine (AllReadyH.cons rfl (fun K hK => ?_) AllReadyH.nil)
      · go_simp
        refine hK.out _ _ hS3 (fun hHeld => ?_)
        clear hK K
        refine wpAnyH_done (by kernel_rfl) ?_ _
        exact h _ _ _ _ _ _ _ _ R3 hG
end Go.Proofs.Ytofmimoklbkeoaa
/- How many values a value has and how deep it is, by the program: what the map holds; how deep the first so many of a list are. -/
namespace Go.Proofs.Ytofmimoklbkeoaa
open Go.RowKit
def extV (x : Li) : Value := .agg #[.int .i64 x.F.size, .int .i64 x.F.deep]
def exts' : List Li → List (Pl × Value)
  | [] => []
  | x :: t => putL x.pl (extV x) (exts' t)
/-- what the map holds behind those lists -/
def exts (pre : List Li) : List (Pl × Value) := exts' pre.reverse
theorem exts_snoc (pre : List Li) (x : Li) : exts (pre ++ [x]) = putL x.pl (extV x) (exts pre) := by
  unfold exts
  rw [List.reverse_append]
  rfl
theorem exts_keys' : ∀ (l : List Li) (q : Pl × Value), q ∈ exts' l → ∃ y ∈ l, y.pl = q.1 := by
  intro l
  induction l with
  | nil => intro q hq; exact absurd hq List.not_mem_nil
  | cons x t ih =>
    intro q hq
    rcases putL_keys _ _ _ q hq with e | hq
    · exact ⟨x, List.mem_cons_self, e.symm⟩
    · obtain ⟨y, hy, e⟩ := ih q hq
      exact ⟨y, List.mem_cons_of_mem _ hy, e⟩
theorem exts_get' {w : World} {x : Li} (hx : x.Ok w) : ∀ (l : List Li), (∀ y ∈ l, y.Ok w) → (∃ z ∈ l, z.pl = x.pl) → getL x.pl (exts' l) = some (extV x) := by
  intro l
  induction l with
  | nil => rintro _ ⟨z, hz, _⟩; exact absurd hz List.not_mem_nil
  | cons y t ih =>
    rintro hok ⟨z, hz, e⟩
    show getL x.pl (putL y.pl (extV y) (exts' t)) = _
    rw [getL_put]
    by_cases h : x.pl = y.pl
    · rw [if_pos h]
      have hF := Li.F_inj hx (hok y List.mem_cons_self) h
      unfold extV
      rw [hF]
    · rw [if_neg h]
      refine ih (fun y hy => hok y (List.mem_cons_of_mem _ hy)) ⟨z, ?_, e⟩
      rcases List.mem_cons.1 hz with rfl | hz
      · exact absurd e.symm h
      · exact hz
theorem exts_keys {w : World} {pre : List Li} (hok : ∀ y ∈ pre, y.Ok w) : ∀ q ∈ exts pre, PlOk w q.1 := fun q hq => by
  obtain ⟨y, hy, e⟩ := exts_keys' _ q hq
  rw [← e]
  exact (hok y (List.mem_reverse.1 hy)).2.1
theorem exts_get {w : World} {pre : List Li} {x : Li} (hx : x.Ok w) (hok : ∀ y ∈ pre, y.Ok w) (h : ∃ z ∈ pre, z.pl = x.pl) : getL x.pl (exts pre) = some (extV x) := by
  obtain ⟨z, hz, e⟩ := h
  exact exts_get' hx _ (fun y hy => hok y (List.mem_reverse.1 hy)) ⟨z, List.mem_reverse.2 hz, e⟩
/-- how deep the first so many are -/
def Vo.dpTo (F : Vo) : Nat → Nat
  | 0 => 0
  | n + 1 => max (F.dpTo n) ((F.kidsAt n).deep + 1)
theorem dpTo_next (hd : Hd) (a : Option Addr) (c : Nat) (kids next : Vo) (n : Nat) : (Vo.cons hd a c kids next).dpTo (n + 1) = max (kids.deep + 1) (next.dpTo n) := by
  induction n with
  | zero => show max 0 (kids.deep + 1) = max (kids.deep + 1) 0; omega
  | succ n ih => show max ((Vo.cons hd a c kids next).dpTo (n + 1)) ((next.kidsAt n).deep + 1) = max (kids.deep + 1) (max (next.dpTo n) ((next.kidsAt n).deep + 1)); rw [ih]; omega
theorem dpTo_len (F : Vo) : F.dpTo F.len = F.deep := by
  induction F with
  | nil => rfl
  | cons hd a c kids next _ ih => show (Vo.cons hd a c kids next).dpTo (next.len + 1) = max (kids.deep + 1) next.deep; rw [dpTo_next, ih]
theorem upTo2_small {x y : Nat} (h : x + y ≤ 9223372036854775807) : upTo2 x y = x + y := if_neg (by omega)
theorem listsOf_any (hd : Hd) (a : Option Addr) (n c : Nat) (w : World) :
    Calls Try.prog 43 #[valV hd a n c] w fun r w' => r = .returned (.func (.func 71) #[] #[.pointer (some ⟨w.heap.size, 0, none⟩)]) ∧ w' = w.alloc (.cells #[.int .i64 hd.k, .int .i64 hd.m, .int .i64 hd.e, .string hd.t, .slice a n c, .slice hd.na hd.ns.length hd.nc] 33) := by
  go_enter Try.func43, Try.ntmps43
  go_wp2_with fail
  go_ret
  exact ⟨rfl, rfl⟩
end Go.Proofs.Ytofmimoklbkeoaa
/- Contracts of the leaves of chapter 2: letters, figures, runs, words, NameOk of both sides. -/
namespace Go.Proofs.Ytofmimoklbkeoaa
open Go.RowKit

theorem lret_bool {a b : Bool} (h : a = b) : Ending.returned (.bool a) = .returned (.bool b) := by rw [h]
theorem lret_int {k : IntKind} {a b : Int} (h : a = b) : Ending.returned (.int k a) = .returned (.int k b) := by rw [h]

set_option maxHeartbeats 400000 in
theorem isLetter_any (c : Int) (w : World) :
    Calls Try.prog 135 #[.int .u8 c] w fun e w' => e = .returned (.bool (Qm.low c)) ∧ w' = w := by
  go_enter Try.func135, Try.ntmps135
  go_wp2
  all_goals
    go_ret
    exact ⟨lret_bool (by rw [Bool.eq_iff_iff]; simp [Qm.low]; try omega), rfl⟩
set_option maxHeartbeats 400000 in
theorem l2Low_any (c : Int) (w : World) :
    Calls Try.prog 114 #[.int .u8 c] w fun e w' => e = .returned (.bool (Qm.low c)) ∧ w' = w := by
  go_enter Try.func114, Try.ntmps114
  go_wp2
  all_goals
    go_ret
    exact ⟨lret_bool (by rw [Bool.eq_iff_iff]; simp [Qm.low]; try omega), rfl⟩
set_option maxHeartbeats 400000 in
theorem isFigure_any (c : Int) (w : World) :
    Calls Try.prog 139 #[.int .u8 c] w fun e w' => e = .returned (.bool (Qm.fig c)) ∧ w' = w := by
  go_enter Try.func139, Try.ntmps139
  go_wp2
  all_goals
    go_ret
    exact ⟨lret_bool (by rw [Bool.eq_iff_iff]; simp [Qm.fig]; try omega), rfl⟩
set_option maxHeartbeats 400000 in
theorem l2Figure_any (c : Int) (w : World) :
    Calls Try.prog 115 #[.int .u8 c] w fun e w' => e = .returned (.bool (Qm.fig c)) ∧ w' = w := by
  go_enter Try.func115, Try.ntmps115
  go_wp2
  all_goals
    go_ret
    exact ⟨lret_bool (by rw [Bool.eq_iff_iff]; simp [Qm.fig]; try omega), rfl⟩
set_option maxHeartbeats 400000 in
theorem isNamePart_any (c : Int) (w : World) :
    Calls Try.prog 137 #[.int .u8 c] w fun e w' => e = .returned (.bool (Qm.part c)) ∧ w' = w := by
  go_enter Try.func137, Try.ntmps137
  go_wp2_with (first | (go_at_call 135; refine (isLetter_any _ _).mono ?_; rintro e w' ⟨rfl, rfl⟩) | (go_at_call 139; refine (isFigure_any _ _).mono ?_; rintro e w' ⟨rfl, rfl⟩))
  all_goals
    go_ret
    exact ⟨lret_bool (by simp_all [Qm.part]), rfl⟩
set_option maxHeartbeats 400000 in
theorem l1In_l (n a b : Int) (w : World) :
    Calls Try.prog 105 #[.int .i64 n, .int .i64 a, .int .i64 b] w fun e w' => e = .returned (.bool (decide (a ≤ n) && decide (n ≤ b))) ∧ w' = w := by
  go_enter Try.func105, Try.ntmps105
  go_wp2
  all_goals
    go_ret
    exact ⟨lret_bool (by simp; try omega), rfl⟩

/-- how many bytes a text begins with that are name's parts -/
theorem runLength_part (s : ByteArray) (w : World) (hs : s.size ≤ maxLen) :
    Calls Try.prog 136 #[.string s, .func (.func 137) #[] #[]] w fun e w' => e = .returned (.int .i64 (Qm.run Qm.part s.data.toList)) ∧ w' = w := by
  unfold maxLen at hs
  go_enter Try.func136, Try.ntmps136
  go_wp2_with fail
  go_loop [5] (fun i => ∃ k : Nat, k ≤ s.size ∧ i = .int .i64 k ∧ Qm.run Qm.part s.data.toList = k + Qm.run Qm.part (s.data.toList.drop k)) (fun i => s.size - (intOf i).toNat)
  case atStart => exact ⟨0, Nat.zero_le _, rfl, by simp⟩
  case round =>
    obtain ⟨k, hk, rfl, hr⟩ := hrel
    have HR : Hid (Qm.run Qm.part s.data.toList = k + Qm.run Qm.part (s.data.toList.drop k)) := hr
    clear hr
    by_cases hlt : k < s.size
    · have HS : Hid (Qm.run Qm.part (s.data.toList.drop k) = if Qm.part s[k].toNat then 1 + Qm.run Qm.part (s.data.toList.drop (k + 1)) else 0) := Qm.run_step _ s k hlt
      cases hp : Qm.part s[k].toNat
      · go_wp2_with (go_at_call 137; refine (isNamePart_any _ _).mono ?_; rintro e w' ⟨rfl, rfl⟩)
        go_ret
        exact ⟨lret_int (by rw [HR.out, HS.out, hp]; simp), rfl⟩
      · go_wp2_with (go_at_call 137; refine (isNamePart_any _ _).mono ?_; rintro e w' ⟨rfl, rfl⟩)
        go_round
        case rel => exact ⟨k + 1, by omega, by go_num, by rw [HR.out, HS.out, hp]; simp; omega⟩
        case measure => simp [intOf]; omega
    · have HE := Qm.run_end Qm.part s k hlt
      have HE' : Hid (Qm.run Qm.part (s.data.toList.drop k) = 0) := HE
      clear HE
      go_wp2_with fail
      go_ret
      exact ⟨lret_int (by rw [HR.out, HE'.out]; simp), rfl⟩
end Go.Proofs.Ytofmimoklbkeoaa
/- Contracts: words, l2Has, l2Letters, NameOk of both sides. -/
namespace Go.Proofs.Ytofmimoklbkeoaa
open Go.RowKit

set_option maxHeartbeats 1000000 in
theorem isWord_any (s : ByteArray) (w : World) :
    Calls Try.prog 138 #[.string s] w fun e w' => e = .returned (.bool (Qm.has Qm.words s.toList)) ∧ w' = w := by
  generalize hl : s.toList = l
  cases h : Qm.has Qm.words l
  · simp only [Qm.words, Qm.has, Bool.or_eq_false_iff] at h
    obtain ⟨a1, a2, a3, a4, a5, a6, a7, a8, a9, a10, a11, a12, a13, a14, a15, _⟩ := h
    go_enter Try.func138, Try.ntmps138
    go_wp2_with fail
    go_ret
    exact ⟨rfl, rfl⟩
  · have hm : l ∈ Qm.words := by
      simp only [Qm.words, Qm.has, Bool.or_eq_true, beq_iff_eq] at h
      simp only [Qm.words, List.mem_cons, List.not_mem_nil, or_false]
      rcases h with h | h | h | h | h | h | h | h | h | h | h | h | h | h | h | h
      all_goals first | exact absurd h (by simp) | (subst h; simp)
    clear h
    simp only [Qm.words, List.mem_cons, List.not_mem_nil, or_false] at hm
    rcases hm with h | h | h | h | h | h | h | h | h | h | h | h | h | h | h
    all_goals
      subst h
      go_enter Try.func138, Try.ntmps138
      go_wp2_with fail
      go_ret
      exact ⟨rfl, rfl⟩
end Go.Proofs.Ytofmimoklbkeoaa
/- Contracts: l2Words, l2Has. -/
namespace Go.Proofs.Ytofmimoklbkeoaa
open Go.RowKit

/-- the words' texts, as they lie in memory -/
def wordTexts : Array Value := #[.string ⟨#[110, 117, 108, 108]⟩, .string ⟨#[116, 114, 117, 101]⟩, .string ⟨#[102, 97, 108, 115, 101]⟩, .string ⟨#[105, 102]⟩, .string ⟨#[116, 104, 101, 110]⟩, .string ⟨#[101, 108, 115, 101]⟩, .string ⟨#[108, 111, 99, 97, 108]⟩, .string ⟨#[102, 117, 110, 99, 116, 105, 111, 110]⟩, .string ⟨#[115, 101, 108, 102]⟩, .string ⟨#[115, 117, 112, 101, 114]⟩, .string ⟨#[101, 114, 114, 111, 114]⟩, .string ⟨#[105, 109, 112, 111, 114, 116]⟩, .string ⟨#[102, 111, 114]⟩, .string ⟨#[105, 110]⟩, .string ⟨#[115, 116, 100]⟩]
set_option maxHeartbeats 400000 in
theorem l2Words_any (w : World) :
    Calls Try.prog 111 #[] w fun e w' => e = .returned (.slice (some ⟨w.heap.size, 0, none⟩) 15 15) ∧ w' = w.alloc (.cells wordTexts 9) := by
  go_enter Try.func111, Try.ntmps111
  go_wp2_with fail
  go_ret
  exact ⟨rfl, rfl⟩

set_option maxHeartbeats 400000 in
theorem l2Has_any (b n : Nat) (S : List ByteArray) (s : ByteArray) (w : World) (hn : S.length = n) (hb : n ≤ 1000)
    (hc : ∀ k (h : k < S.length), w.cell? ⟨b, k, none⟩ = some (.string S[k])) :
    Calls Try.prog 84 #[.slice (some ⟨b, 0, none⟩) n n, .string s] w fun e w' => e = .returned (.bool (Qm.has (S.map ByteArray.toList) s.toList)) ∧ w' = w := by
  subst hn
  go_enter Try.func84, Try.ntmps84
  go_wp2_with fail
  go_loop [5] (fun i => ∃ k : Nat, k ≤ S.length ∧ i = .int .i64 k ∧ Qm.has (S.map ByteArray.toList) s.toList = Qm.has ((S.map ByteArray.toList).drop k) s.toList) (fun i => S.length - (intOf i).toNat)
  case atStart => exact ⟨0, Nat.zero_le _, rfl, by simp⟩
  case round =>
    obtain ⟨k, hk, rfl, hr⟩ := hrel
    have HR : Hid (Qm.has (S.map ByteArray.toList) s.toList = Qm.has ((S.map ByteArray.toList).drop k) s.toList) := hr
    clear hr
    by_cases hlt : k < S.length
    · have HS : Hid (Qm.has ((S.map ByteArray.toList).drop k) s.toList = ((s.toList == (S.map ByteArray.toList)[k]'(by simpa using hlt)) || Qm.has ((S.map ByteArray.toList).drop (k + 1)) s.toList)) := Qm.has_drop _ _ k (by simpa using hlt)
      have hck := hc k hlt
      clear hc
      cases hq : (S[k].toList == s.toList)
      · go_wp2_with fail
        go_round
        case rel => exact ⟨k + 1, by omega, by go_num, by rw [HR.out, HS.out, List.getElem_map, BEq.comm, hq]; simp⟩
        case measure => simp [intOf]; omega
      · go_wp2_with fail
        go_ret
        exact ⟨lret_bool (by rw [HR.out, HS.out, List.getElem_map, BEq.comm, hq]; simp), rfl⟩
    · have HE : Hid (Qm.has ((S.map ByteArray.toList).drop k) s.toList = false) := Qm.has_end _ _ k (by simpa using hlt)
      go_wp2_with fail
      go_ret
      exact ⟨lret_bool (by rw [HR.out, HE.out]), rfl⟩

set_option maxHeartbeats 400000 in
theorem l2Letters_any (s : ByteArray) (w : World) (hs : s.size ≤ maxLen) :
    Calls Try.prog 110 #[.string s] w fun e w' => e = .returned (.bool (Qm.letters 0 s.data.toList && (decide (1 ≤ s.size) && decide (s.size ≤ 12)))) ∧ w' = w := by
  unfold maxLen at hs
  go_enter Try.func110, Try.ntmps110
  go_wp2_with fail
  go_loop [3] (fun i => ∃ k : Nat, k ≤ s.size ∧ i = .int .i64 k ∧ Qm.letters 0 s.data.toList = Qm.letters k (s.data.toList.drop k)) (fun i => s.size - (intOf i).toNat)
  case atStart => exact ⟨0, Nat.zero_le _, rfl, by simp⟩
  case round =>
    obtain ⟨k, hk, rfl, hr⟩ := hrel
    have HR : Hid (Qm.letters 0 s.data.toList = Qm.letters k (s.data.toList.drop k)) := hr
    clear hr
    by_cases hlt : k < s.size
    · have HS : Hid (Qm.letters k (s.data.toList.drop k) = (Qm.okAt k s[k].toNat && Qm.letters (k + 1) (s.data.toList.drop (k + 1)))) := Qm.letters_step s k hlt
      cases h1 : Qm.low s[k].toNat
      · by_cases h0 : k = 0
        · subst h0
          go_wp2_with (first | (go_at_call 114; refine (l2Low_any _ _).mono ?_; rintro e w' ⟨rfl, rfl⟩) | (go_at_call 115; refine (l2Figure_any _ _).mono ?_; rintro e w' ⟨rfl, rfl⟩))
          go_ret
          exact ⟨lret_bool (by rw [HR.out, HS.out]; simp [Qm.okAt, h1]), rfl⟩
        · cases h2 : Qm.fig s[k].toNat
          · go_wp2_with (first | (go_at_call 114; refine (l2Low_any _ _).mono ?_; rintro e w' ⟨rfl, rfl⟩) | (go_at_call 115; refine (l2Figure_any _ _).mono ?_; rintro e w' ⟨rfl, rfl⟩))
            go_ret
            exact ⟨lret_bool (by rw [HR.out, HS.out]; simp [Qm.okAt, h1, h2]), rfl⟩
          · go_wp2_with (first | (go_at_call 114; refine (l2Low_any _ _).mono ?_; rintro e w' ⟨rfl, rfl⟩) | (go_at_call 115; refine (l2Figure_any _ _).mono ?_; rintro e w' ⟨rfl, rfl⟩))
            go_round
            case rel => exact ⟨k + 1, by omega, by go_num, by rw [HR.out, HS.out]; simp [Qm.okAt, h1, h2, h0]⟩
            case measure => simp [intOf]; omega
      · go_wp2_with (first | (go_at_call 114; refine (l2Low_any _ _).mono ?_; rintro e w' ⟨rfl, rfl⟩) | (go_at_call 115; refine (l2Figure_any _ _).mono ?_; rintro e w' ⟨rfl, rfl⟩))
        go_round
        case rel => exact ⟨k + 1, by omega, by go_num, by rw [HR.out, HS.out]; simp [Qm.okAt, h1]⟩
        case measure => simp [intOf]; omega
    · have HE : Hid (Qm.letters k (s.data.toList.drop k) = true) := by unfold Hid; rw [Qm.drop_end s k hlt]; rfl
      go_wp2_with (go_at_call 105; refine (l1In_l _ _ _ _).mono ?_; rintro e w' ⟨rfl, rfl⟩)
      go_ret
      exact ⟨lret_bool (by rw [HR.out, HE.out, Bool.eq_iff_iff]; simp; omega), rfl⟩

/-- the words, as byte arrays -/
def wordArrs : List ByteArray := [⟨#[110, 117, 108, 108]⟩, ⟨#[116, 114, 117, 101]⟩, ⟨#[102, 97, 108, 115, 101]⟩, ⟨#[105, 102]⟩, ⟨#[116, 104, 101, 110]⟩, ⟨#[101, 108, 115, 101]⟩, ⟨#[108, 111, 99, 97, 108]⟩, ⟨#[102, 117, 110, 99, 116, 105, 111, 110]⟩, ⟨#[115, 101, 108, 102]⟩, ⟨#[115, 117, 112, 101, 114]⟩, ⟨#[101, 114, 114, 111, 114]⟩, ⟨#[105, 109, 112, 111, 114, 116]⟩, ⟨#[102, 111, 114]⟩, ⟨#[105, 110]⟩, ⟨#[115, 116, 100]⟩]
theorem wordArrs_lists : wordArrs.map ByteArray.toList = Qm.words := by decide +kernel
theorem wordArrs_cells (w : World) : ∀ k (h : k < wordArrs.length), (w.alloc (.cells wordTexts 9)).cell? ⟨w.heap.size, k, none⟩ = some (.string wordArrs[k]) := by
  intro k h
  have h' : k < 15 := h
  simp only [wordTexts]
  have : k = 0 ∨ k = 1 ∨ k = 2 ∨ k = 3 ∨ k = 4 ∨ k = 5 ∨ k = 6 ∨ k = 7 ∨ k = 8 ∨ k = 9 ∨ k = 10 ∨ k = 11 ∨ k = 12 ∨ k = 13 ∨ k = 14 := by omega
  rcases this with rfl | rfl | rfl | rfl | rfl | rfl | rfl | rfl | rfl | rfl | rfl | rfl | rfl | rfl | rfl
  all_goals simp [wordArrs]

set_option maxHeartbeats 400000 in
theorem sNameOk_any (s : ByteArray) (w : World) (hs : s.size ≤ maxLen) :
    Calls Try.prog 106 #[.string s] w fun e w' => e = .returned (.bool (Qm.name s)) ∧ Below w.heap.size w w' := by
  cases h : (Qm.letters 0 s.data.toList && (decide (1 ≤ s.size) && decide (s.size ≤ 12)))
  · go_enter Try.func106, Try.ntmps106
    go_wp2_with (go_at_call 110; refine (l2Letters_any _ _ hs).mono ?_; rintro e w' ⟨rfl, rfl⟩)
    go_ret
    exact ⟨lret_bool (by unfold Qm.name; rw [h]; rfl), Below.refl _ _⟩
  · have HH := l2Has_any w.heap.size 15 wordArrs s (w.alloc (.cells wordTexts 9)) rfl (by omega) (wordArrs_cells w)
    rw [wordArrs_lists] at HH
    cases hw : Qm.has Qm.words s.toList
    all_goals
      rw [hw] at HH
      go_enter Try.func106, Try.ntmps106
      go_wp2_with (first | (go_at_call 110; refine (l2Letters_any _ _ hs).mono ?_; rintro e w' ⟨rfl, rfl⟩) | (go_at_call 111; refine (l2Words_any _).mono ?_; rintro e w' ⟨rfl, rfl⟩) | (go_at_call 84; refine HH.mono ?_; rintro e w' ⟨rfl, rfl⟩))
      go_ret
      exact ⟨lret_bool (by unfold Qm.name; rw [h, hw]; rfl), (Below.refl _ _).alloc (Nat.le_refl _) _⟩

set_option maxHeartbeats 400000 in
theorem iNameOk_any (s : ByteArray) (w : World) (hs : s.size ≤ maxLen) :
    Calls Try.prog 134 #[.string s] w fun e w' => e = .returned (.bool (Qm.name s)) ∧ w' = w := by
  by_cases h0 : 0 < s.size
  · have hne : (s.toList == []) = false := by rw [beq_eq_false_iff_ne]; intro h; rw [ByteArray.toList_eq] at h; have := Qm.len_eq s; rw [h] at this; simp at this; omega
    by_cases h12 : s.size ≤ 12
    · have HN := Qm.name_eq s h0
      have HN' : Hid (Qm.name s = (decide (s.size ≤ 12) && (Qm.low s[0].toNat && (decide (Qm.run Qm.part s.data.toList = s.size) && !Qm.has Qm.words s.toList)))) := HN
      clear HN
      have hR := Qm.run_le Qm.part s.data.toList
      simp at hR
      cases hl : Qm.low s[0].toNat
      · go_enter Try.func134, Try.ntmps134
        go_wp2_with (go_at_call 135; refine (isLetter_any _ _).mono ?_; rintro e w' ⟨rfl, rfl⟩)
        go_ret
        exact ⟨lret_bool (by rw [HN'.out, hl]; simp), rfl⟩
      · by_cases hr : Qm.run Qm.part s.data.toList = s.size
        · cases hw : Qm.has Qm.words s.toList
          all_goals
            go_enter Try.func134, Try.ntmps134
            go_wp2_with (first | (go_at_call 135; refine (isLetter_any _ _).mono ?_; rintro e w' ⟨rfl, rfl⟩) | (go_at_call 136; refine (runLength_part _ _ hs).mono ?_; rintro e w' ⟨rfl, rfl⟩) | (go_at_call 138; refine (isWord_any _ _).mono ?_; rintro e w' ⟨rfl, rfl⟩))
            go_ret
            exact ⟨lret_bool (by rw [HN'.out, hl, hr, hw]; simp [h12]), rfl⟩
        · have hr' : ((Qm.run Qm.part s.data.toList : Int) == s.size) = false := by simp; omega
          go_enter Try.func134, Try.ntmps134
          go_wp2_with (first | (go_at_call 135; refine (isLetter_any _ _).mono ?_; rintro e w' ⟨rfl, rfl⟩) | (go_at_call 136; refine (runLength_part _ _ hs).mono ?_; rintro e w' ⟨rfl, rfl⟩) | (go_at_call 138; refine (isWord_any _ _).mono ?_; rintro e w' ⟨rfl, rfl⟩))
          go_ret
          exact ⟨lret_bool (by rw [HN'.out, hl]; simp [hr]), rfl⟩
    · have HN : Hid (Qm.name s = false) := Qm.name_long s h12
      go_enter Try.func134, Try.ntmps134
      go_wp2_with fail
      go_ret
      exact ⟨lret_bool (by rw [HN.out]), rfl⟩
  · have HN : Hid (Qm.name s = false) := Qm.name_none s h0
    have hne : (s.toList == []) = true := by rw [beq_iff_eq]; apply List.eq_nil_of_length_eq_zero; rw [ByteArray.toList_eq, Qm.len_eq]; omega
    go_enter Try.func134, Try.ntmps134
    go_wp2_with fail
    go_ret
    exact ⟨lret_bool (by rw [HN.out]), rfl⟩
end Go.Proofs.Ytofmimoklbkeoaa
