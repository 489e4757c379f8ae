/- Two values that are the same: the law's regions that draw. -/
import Derived.Test.YtohldacplapjkaaWk
import Derived.Test.YtohldacplapjkaaWe
namespace Go.Proofs.Ytohldacplapjkaa
open Go.RowKit
set_option maxRecDepth 100000 in
set_option maxHeartbeats 1000000 in
theorem ts8 {Q : Exit → Act → World → Prop} {t0 t1 t4 t5 t6 t7 t8 t9 t10 t11 t12 t13 t14 t15 t16 t17 t18 t19 t20 t21 t22 t23 t24 t25 t26 t27 t28 t29 t30 t31 t32 t33 t34 t35 t36 t37 t38 t39 t40 t41 t42 t43 t44 : Value} {W : World} {b b2 : Nat} {hd : Hd} {a : Option Addr} {F : Vo} {c : Nat} {hd2 : Hd} {a2 : Option Addr} {G : Vo} {c2 : Nat}
    (hA : BxV b hd (.slice a F.len c) W) (hB : BxV b2 hd2 (.slice a2 G.len c2) W) (hin : F.In W a) (hin2 : G.In W a2) (hl : F.len ≤ c) (hc : c ≤ maxLen) (hh : hd.In W) (hs : F.wt ≤ 1048576) (hsn : hd.ns.length ≤ 1048576) (hl2 : G.len ≤ c2) (hc2 : c2 ≤ maxLen) (hh2 : hd2.In W) (hs2 : G.wt ≤ 1048576) (hsn2 : hd2.ns.length ≤ 1048576)
    (hp : ∀ p d v a w, Q (.panic p) (Act.put a d v) w → Q (.panic p) a w) (h : ∀ ws q v20 v21 v22 v23 v24, (q = true ↔ same2V (⟨hd, a, F, c⟩, ⟨hd2, a2, G, c2⟩)) → Below W.heap.size W ws → Q .normal { tmps := (t0 :: t1 :: .pointer (some ⟨b, 0, none⟩) :: .pointer (some ⟨b2, 0, none⟩) :: t4 :: t5 :: .bool q :: t7 :: t8 :: t9 :: t10 :: t11 :: t12 :: t13 :: t14 :: t15 :: t16 :: t17 :: t18 :: t19 :: v20 :: v21 :: v22 :: v23 :: v24 :: t25 :: t26 :: t27 :: t28 :: t29 :: t30 :: t31 :: t32 :: t33 :: t34 :: t35 :: t36 :: t37 :: t38 :: t39 :: t40 :: t41 :: t42 :: t43 :: t44 :: []).toArray, defers := [] } ws) :
    Code.wp Try.prog (Code.region 8 #[{ dst := some 20, op := Op.load 27 (Operand.tmp 2), type := 27, pos := "exact.go:1883", after := #[], guard := none }, { dst := some 21, op := Op.call { callee := Callee.value (Operand.func 8), args := #[Operand.tmp 20], argTypes := #[27] }, type := 33, pos := "exact.go:1883", after := #[{ on := 0, ground := Ground.data }], guard := none }, { dst := some 22, op := Op.load 27 (Operand.tmp 3), type := 27, pos := "exact.go:1883", after := #[], guard := none }, { dst := some 23, op := Op.call { callee := Callee.value (Operand.func 8), args := #[Operand.tmp 22], argTypes := #[27] }, type := 33, pos := "exact.go:1883", after := #[{ on := 2, ground := Ground.data }, { on := 1, ground := Ground.chain }], guard := none }, { dst := some 24, op := Op.call { callee := Callee.value (Operand.func 11), args := #[Operand.tmp 21, Operand.tmp 23], argTypes := #[33, 33] }, type := 4, pos := "exact.go:1883", after := #[{ on := 1, ground := Ground.data }, { on := 3, ground := Ground.data }, { on := 3, ground := Ground.chain }], guard := none }, { dst := some 6, op := Op.assign (Operand.tmp 24), type := 4, pos := "exact.go:1883", after := #[{ on := 4, ground := Ground.data }, { on := 4, ground := Ground.chain }, { on := 0, ground := Ground.phase }, { on := 1, ground := Ground.phase }, { on := 2, ground := Ground.phase }, { on := 3, ground := Ground.phase }, { on := 4, ground := Ground.phase }], guard := none }] true) Q { tmps := (t0 :: t1 :: .pointer (some ⟨b, 0, none⟩) :: .pointer (some ⟨b2, 0, none⟩) :: t4 :: t5 :: t6 :: t7 :: t8 :: t9 :: t10 :: t11 :: t12 :: t13 :: t14 :: t15 :: t16 :: t17 :: t18 :: t19 :: t20 :: t21 :: t22 :: t23 :: t24 :: t25 :: t26 :: t27 :: t28 :: t29 :: t30 :: t31 :: t32 :: t33 :: t34 :: t35 :: t36 :: t37 :: t38 :: t39 :: t40 :: t41 :: t42 :: t43 :: t44 :: []).toArray, defers := [] } W := by
  have HSof : Hid (∀ w', Below W.heap.size W w' → (BxV b hd (.slice a F.len c) w' ∧ BxV b2 hd2 (.slice a2 G.len c2) w')) := fun w' h => ⟨hA.below h, hB.below h⟩
  have HI : Hid (∀ w', Below W.heap.size W w' → (F.In w' a ∧ G.In w' a2) ∧ hd.In w' ∧ hd2.In w') := fun w' h => ⟨⟨hin.grow h, hin2.grow h⟩, hh.grow h, hh2.grow h⟩
  have hS0 := HSof.out _ ((Below.refl _ W).drew)
  clear hA hB hin hin2
  refine wp_region_held_drew (S := fun w' => BxV b hd (.slice a F.len c) w' ∧ BxV b2 hd2 (.slice a2 G.len c2) w') (by kernel_rfl) hS0 (fun hHeld => ?_)
  refine wpAnyH_take (i := 0) (v := valV hd a F.len c) rfl (by kernel_rfl) (by kernel_rfl) (by kernel_rfl) (fun _ _ _ h => hp _ _ _ _ _ h) (Or.inl ⟨by rfl, ?_⟩) (by assumption) ?_
  · intro w hSw
    (try dsimp only at hSw)
    go_simp
  (try simp only [Act.put, List.getElem_toArray, List.getElem_cons_zero, List.setIfInBounds_toArray, List.set_cons_zero, List.set_cons_succ])
  refine wpAnyH_take (i := 2) (v := valV hd2 a2 G.len c2) rfl (by kernel_rfl) (by kernel_rfl) (by kernel_rfl) (fun _ _ _ h => hp _ _ _ _ _ h) (Or.inl ⟨by rfl, ?_⟩) (by assumption) ?_
  · intro w hSw
    (try dsimp only at hSw)
    go_simp
  (try simp only [Act.put, List.getElem_toArray, List.getElem_cons_zero, List.getElem_cons_succ, List.setIfInBounds_toArray, List.set_cons_zero, List.set_cons_succ])
  have hB0 := (Below.refl W.heap.size W).drew
  refine wpAnyH_ready (rs := [1]) (by kernel_rfl) (by simp) ?_
  refine AllReadyH.cons rfl (fun K hK => ?_) AllReadyH.nil
  go_simp
  refine (toValue_any hd a c F _ hs hsn (HI.out _ hB0).1.1 hl hc (HI.out _ hB0).2.1).mono ?_
  rintro r w1 ⟨⟨nb1, m1, F1, rfl, ha1, hF1, hi1, _⟩, hb1⟩
  have hB1 := hB0.trans (hb1.mono hB0.size)
  have HI1 : Hid ((hd.to m1).In w1) := hi1
  clear hi1
  go_wp2_with fail
  refine hK.out _ _ (HSof.out _ hB1) (fun hHeld => ?_)
  clear hK K hB0 hb1
  refine wpAnyH_ready (rs := [3]) (by kernel_rfl) (by simp) ?_
  refine AllReadyH.cons rfl (fun K hK => ?_) AllReadyH.nil
  go_simp
  refine (toValue_any hd2 a2 c2 G _ hs2 hsn2 (HI.out _ hB1).1.2 hl2 hc2 (HI.out _ hB1).2.2).mono ?_
  rintro r w2 ⟨⟨nb2, m2, G1, rfl, ha2, hG1, hi2, _⟩, hb2⟩
  have HI2 : Hid ((hd.to m1).In w2 ∧ (hd2.to m2).In w2) := ⟨HI1.out.grow hb2, hi2⟩
  clear hi2 HI1
  have hB2 := hB1.trans (hb2.mono hB1.size)
  have hF2 := Vo.from_grow hb2 F1 _ _ hF1
  go_wp2_with fail
  refine hK.out _ _ (HSof.out _ hB2) (fun hHeld => ?_)
  clear hK K hB1 hb2 hF1
  have hs1 : F1.size ≤ 1048576 := by rw [Vo.alike_size ha1]; exact Nat.le_trans F.size_wt hs
  refine wpAnyH_ready (rs := [4]) (by kernel_rfl) (by simp) ?_
  refine AllReadyH.cons rfl (fun K hK => ?_) AllReadyH.nil
  go_simp
  refine (sValueSame_any (F1.size + 1) ⟨hd.to m1, some ⟨nb1, 0, none⟩, F1, F1.len⟩ ⟨hd2.to m2, some ⟨nb2, 0, none⟩, G1, G1.len⟩ _ (Nat.lt_succ_self _) (by omega) (.inr ⟨nb1, 0, rfl, hF2⟩) (.inr ⟨nb2, 0, rfl, hG1⟩) HI2.out.1 HI2.out.2).mono ?_
  rintro r w3 ⟨⟨q, rfl, hq⟩, hb3⟩
  have hB3 := hB2.trans (hb3.mono hB2.size)
  have HQ : Hid (q = true ↔ same2V (⟨hd, a, F, c⟩, ⟨hd2, a2, G, c2⟩)) := hq.trans (same2_copyV ha1 ha2)
  clear hq
  go_wp2_with fail
  refine hK.out _ _ (HSof.out _ hB3) (fun hHeld => ?_)
  clear hK K hb3
  refine wpAnyH_take (i := 5) (v := .bool q) rfl (by kernel_rfl) (by kernel_rfl) (by kernel_rfl) (fun _ _ _ h => hp _ _ _ _ _ h) (Or.inl ⟨by rfl, ?_⟩) (by assumption) ?_
  · intro w hSw
    (try dsimp only at hSw)
    go_simp
  (try simp only [Act.put, List.getElem_toArray, List.getElem_cons_zero, List.getElem_cons_succ, List.setIfInBounds_toArray, List.set_cons_zero, List.set_cons_succ])
  refine wpAnyH_done (by kernel_rfl) ?_ _
  exact h _ _ _ _ _ _ _ HQ.out hB3
set_option maxRecDepth 100000 in
set_option maxHeartbeats 1000000 in
theorem ts14 {Q : Exit → Act → World → Prop} {t0 t1 t3 t4 t5 t6 t8 t9 t10 t11 t12 t13 t14 t15 t16 t17 t18 t19 t20 t21 t22 t23 t24 t25 t26 t27 t28 t29 t30 t31 t32 t33 t34 t35 t36 t37 t38 t39 t40 t41 t42 t43 t44 : Value} {W : World} {b bx nb n2 : Nat} {F2 : Vo} {hd : Hd} {a : Option Addr} {F : Vo} {c : Nat}
    (hA : BxV b hd (.slice a F.len c) W) (hX : BxV bx (hd.to n2) (.slice (some ⟨nb, 0, none⟩) F2.len F2.len) W) (hin : F.In W a) (hF2 : F2.From W nb 0) (hi2 : (hd.to n2).In W) (ha : F2.alike F) (hl : F.len ≤ c) (hc : c ≤ maxLen) (hh : hd.In W) (hs : F.wt ≤ 1048576) (hsn : hd.ns.length ≤ 1048576)
    (hp : ∀ p d v a w, Q (.panic p) (Act.put a d v) w → Q (.panic p) a w) (h : ∀ ws v35 v36 v37 v38, Below W.heap.size W ws → Q .normal { tmps := (t0 :: t1 :: .pointer (some ⟨b, 0, none⟩) :: t3 :: t4 :: t5 :: t6 :: .pointer (some ⟨bx, 0, none⟩) :: t8 :: t9 :: t10 :: t11 :: t12 :: t13 :: t14 :: t15 :: t16 :: t17 :: t18 :: t19 :: t20 :: t21 :: t22 :: t23 :: t24 :: t25 :: t26 :: t27 :: t28 :: t29 :: t30 :: t31 :: t32 :: t33 :: t34 :: v35 :: v36 :: v37 :: v38 :: .bool false :: t40 :: t41 :: t42 :: t43 :: t44 :: []).toArray, defers := [] } ws) :
    Code.wp Try.prog (Code.region 14 #[{ dst := some 35, op := Op.load 33 (Operand.tmp 7), type := 33, pos := "exact.go:1890", after := #[], guard := none }, { dst := some 36, op := Op.load 27 (Operand.tmp 2), type := 27, pos := "exact.go:1890", after := #[], guard := none }, { dst := some 37, op := Op.call { callee := Callee.value (Operand.func 8), args := #[Operand.tmp 36], argTypes := #[27] }, type := 33, pos := "exact.go:1890", after := #[{ on := 1, ground := Ground.data }], guard := none }, { dst := some 38, op := Op.call { callee := Callee.value (Operand.func 10), args := #[Operand.tmp 35, Operand.tmp 37], argTypes := #[33, 33] }, type := 4, pos := "exact.go:1890", after := #[{ on := 0, ground := Ground.data }, { on := 2, ground := Ground.data }, { on := 2, ground := Ground.chain }], guard := none }, { dst := some 39, op := Op.unOp UnOp.not 4 (Operand.tmp 38), type := 4, pos := "exact.go:1890", after := #[{ on := 3, ground := Ground.data }], guard := none }] true) Q { tmps := (t0 :: t1 :: .pointer (some ⟨b, 0, none⟩) :: t3 :: t4 :: t5 :: t6 :: .pointer (some ⟨bx, 0, none⟩) :: t8 :: t9 :: t10 :: t11 :: t12 :: t13 :: t14 :: t15 :: t16 :: t17 :: t18 :: t19 :: t20 :: t21 :: t22 :: t23 :: t24 :: t25 :: t26 :: t27 :: t28 :: t29 :: t30 :: t31 :: t32 :: t33 :: t34 :: t35 :: t36 :: t37 :: t38 :: t39 :: t40 :: t41 :: t42 :: t43 :: t44 :: []).toArray, defers := [] } W := by
  have HSof : Hid (∀ w', Below W.heap.size W w' → (BxV b hd (.slice a F.len c) w' ∧ BxV bx (hd.to n2) (.slice (some ⟨nb, 0, none⟩) F2.len F2.len) w')) := fun w' h => ⟨hA.below h, hX.below h⟩
  have HI : Hid (∀ w', Below W.heap.size W w' → (F.In w' a ∧ F2.From w' nb 0) ∧ hd.In w' ∧ (hd.to n2).In w') := fun w' h => ⟨⟨hin.grow h, Vo.from_grow h F2 _ _ hF2⟩, hh.grow h, hi2.grow h⟩
  have hS0 := HSof.out _ ((Below.refl _ W).drew)
  clear hA hX hin hF2
  refine wp_region_held_drew (S := fun w' => BxV b hd (.slice a F.len c) w' ∧ BxV bx (hd.to n2) (.slice (some ⟨nb, 0, none⟩) F2.len F2.len) w') (by kernel_rfl) hS0 (fun hHeld => ?_)
  refine wpAnyH_take (i := 0) (v := valV (hd.to n2) (some ⟨nb, 0, none⟩) F2.len F2.len) rfl (by kernel_rfl) (by kernel_rfl) (by kernel_rfl) (fun _ _ _ h => hp _ _ _ _ _ h) (Or.inl ⟨by rfl, ?_⟩) (by assumption) ?_
  · intro w hSw
    (try dsimp only at hSw)
    go_simp
  (try simp only [Act.put, List.getElem_toArray, List.getElem_cons_zero, List.setIfInBounds_toArray, List.set_cons_zero, List.set_cons_succ])
  refine wpAnyH_take (i := 1) (v := valV hd a F.len c) rfl (by kernel_rfl) (by kernel_rfl) (by kernel_rfl) (fun _ _ _ h => hp _ _ _ _ _ h) (Or.inl ⟨by rfl, ?_⟩) (by assumption) ?_
  · intro w hSw
    (try dsimp only at hSw)
    go_simp
  (try simp only [Act.put, List.getElem_toArray, List.getElem_cons_zero, List.getElem_cons_succ, List.setIfInBounds_toArray, List.set_cons_zero, List.set_cons_succ])
  have hB0 := (Below.refl W.heap.size W).drew
  refine wpAnyH_ready (rs := [2]) (by kernel_rfl) (by simp) ?_
  refine AllReadyH.cons rfl (fun K hK => ?_) AllReadyH.nil
  go_simp
  refine (toValue_any hd a c F _ hs hsn (HI.out _ hB0).1.1 hl hc (HI.out _ hB0).2.1).mono ?_
  rintro r w1 ⟨⟨nb1, m1, F1, rfl, ha1, hF1, hi1, _⟩, hb1⟩
  have HI1 : Hid ((hd.to m1).In w1) := hi1
  clear hi1
  have hB1 := hB0.trans (hb1.mono hB0.size)
  go_wp2_with fail
  refine hK.out _ _ (HSof.out _ hB1) (fun hHeld => ?_)
  clear hK K hB0 hb1
  have hl1 : F1.len ≤ maxLen := by rw [Vo.alike_len ha1]; exact Nat.le_trans hl hc
  have hl2 : F2.len ≤ maxLen := by rw [Vo.alike_len ha]; exact Nat.le_trans hl hc
  have ha21 := Vo.alike_trans ha (Vo.alike_sym ha1)
  refine wpAnyH_ready (rs := [3]) (by kernel_rfl) (by simp) ?_
  refine AllReadyH.cons rfl (fun K hK => ?_) AllReadyH.nil
  go_simp
  refine (eqValue_all (F2.size + 1) (hd.to n2) (hd.to m1) (some ⟨nb, 0, none⟩) (some ⟨nb1, 0, none⟩) F2.len F1.len F2 F1 _ (by omega) ha21 ⟨⟨rfl, rfl, rfl, rfl⟩, rfl⟩ (.inr ⟨nb, 0, rfl, (HI.out _ hB1).1.2⟩) (.inr ⟨nb1, 0, rfl, hF1⟩) (HI.out _ hB1).2.2 HI1.out (Nat.le_refl _) hl2 (Nat.le_refl _) hl1).mono ?_
  rintro r w2 ⟨rfl, hb2⟩
  have hB2 := hB1.trans (hb2.mono hB1.size)
  go_wp2_with fail
  refine hK.out _ _ (HSof.out _ hB2) (fun hHeld => ?_)
  clear hK K hb2
  refine wpAnyH_take (i := 4) (v := .bool false) rfl (by kernel_rfl) (by kernel_rfl) (by kernel_rfl) (fun _ _ _ h => hp _ _ _ _ _ h) (Or.inl ⟨by rfl, ?_⟩) (by assumption) ?_
  · intro w hSw
    (try dsimp only at hSw)
    go_simp
  (try simp only [Act.put, List.getElem_toArray, List.getElem_cons_zero, List.getElem_cons_succ, List.setIfInBounds_toArray, List.set_cons_zero, List.set_cons_succ])
  refine wpAnyH_done (by kernel_rfl) ?_ _
  exact h _ _ _ _ _ hB2
set_option maxRecDepth 100000 in
set_option maxHeartbeats 1000000 in
theorem ts16 {Q : Exit → Act → World → Prop} {t0 t1 t2 t4 t5 t6 t7 t9 t10 t11 t12 t13 t14 t15 t16 t17 t18 t19 t20 t21 t22 t23 t24 t25 t26 t27 t28 t29 t30 t31 t32 t33 t34 t35 t36 t37 t38 t39 t40 t41 t42 t43 t44 : Value} {W : World} {b bx nb n2 : Nat} {F2 : Vo} {hd : Hd} {a : Option Addr} {F : Vo} {c : Nat}
    (hA : BxV b hd (.slice a F.len c) W) (hX : BxV bx (hd.to n2) (.slice (some ⟨nb, 0, none⟩) F2.len F2.len) W) (hin : F.In W a) (hF2 : F2.From W nb 0) (hi2 : (hd.to n2).In W) (ha : F2.alike F) (hl : F.len ≤ c) (hc : c ≤ maxLen) (hh : hd.In W) (hs : F.wt ≤ 1048576) (hsn : hd.ns.length ≤ 1048576)
    (hp : ∀ p d v a w, Q (.panic p) (Act.put a d v) w → Q (.panic p) a w) (h : ∀ ws v40 v41 v42 v43, Below W.heap.size W ws → Q .normal { tmps := (t0 :: t1 :: t2 :: .pointer (some ⟨b, 0, none⟩) :: t4 :: t5 :: t6 :: t7 :: .pointer (some ⟨bx, 0, none⟩) :: t9 :: t10 :: t11 :: t12 :: t13 :: t14 :: t15 :: t16 :: t17 :: t18 :: t19 :: t20 :: t21 :: t22 :: t23 :: t24 :: t25 :: t26 :: t27 :: t28 :: t29 :: t30 :: t31 :: t32 :: t33 :: t34 :: t35 :: t36 :: t37 :: t38 :: t39 :: v40 :: v41 :: v42 :: v43 :: .bool false :: []).toArray, defers := [] } ws) :
    Code.wp Try.prog (Code.region 16 #[{ dst := some 40, op := Op.load 33 (Operand.tmp 8), type := 33, pos := "exact.go:1893", after := #[], guard := none }, { dst := some 41, op := Op.load 27 (Operand.tmp 3), type := 27, pos := "exact.go:1893", after := #[], guard := none }, { dst := some 42, op := Op.call { callee := Callee.value (Operand.func 8), args := #[Operand.tmp 41], argTypes := #[27] }, type := 33, pos := "exact.go:1893", after := #[{ on := 1, ground := Ground.data }], guard := none }, { dst := some 43, op := Op.call { callee := Callee.value (Operand.func 10), args := #[Operand.tmp 40, Operand.tmp 42], argTypes := #[33, 33] }, type := 4, pos := "exact.go:1893", after := #[{ on := 0, ground := Ground.data }, { on := 2, ground := Ground.data }, { on := 2, ground := Ground.chain }], guard := none }, { dst := some 44, op := Op.unOp UnOp.not 4 (Operand.tmp 43), type := 4, pos := "exact.go:1893", after := #[{ on := 3, ground := Ground.data }], guard := none }] true) Q { tmps := (t0 :: t1 :: t2 :: .pointer (some ⟨b, 0, none⟩) :: t4 :: t5 :: t6 :: t7 :: .pointer (some ⟨bx, 0, none⟩) :: t9 :: t10 :: t11 :: t12 :: t13 :: t14 :: t15 :: t16 :: t17 :: t18 :: t19 :: t20 :: t21 :: t22 :: t23 :: t24 :: t25 :: t26 :: t27 :: t28 :: t29 :: t30 :: t31 :: t32 :: t33 :: t34 :: t35 :: t36 :: t37 :: t38 :: t39 :: t40 :: t41 :: t42 :: t43 :: t44 :: []).toArray, defers := [] } W := by
  have HSof : Hid (∀ w', Below W.heap.size W w' → (BxV b hd (.slice a F.len c) w' ∧ BxV bx (hd.to n2) (.slice (some ⟨nb, 0, none⟩) F2.len F2.len) w')) := fun w' h => ⟨hA.below h, hX.below h⟩
  have HI : Hid (∀ w', Below W.heap.size W w' → (F.In w' a ∧ F2.From w' nb 0) ∧ hd.In w' ∧ (hd.to n2).In w') := fun w' h => ⟨⟨hin.grow h, Vo.from_grow h F2 _ _ hF2⟩, hh.grow h, hi2.grow h⟩
  have hS0 := HSof.out _ ((Below.refl _ W).drew)
  clear hA hX hin hF2
  refine wp_region_held_drew (S := fun w' => BxV b hd (.slice a F.len c) w' ∧ BxV bx (hd.to n2) (.slice (some ⟨nb, 0, none⟩) F2.len F2.len) w') (by kernel_rfl) hS0 (fun hHeld => ?_)
  refine wpAnyH_take (i := 0) (v := valV (hd.to n2) (some ⟨nb, 0, none⟩) F2.len F2.len) rfl (by kernel_rfl) (by kernel_rfl) (by kernel_rfl) (fun _ _ _ h => hp _ _ _ _ _ h) (Or.inl ⟨by rfl, ?_⟩) (by assumption) ?_
  · intro w hSw
    (try dsimp only at hSw)
    go_simp
  (try simp only [Act.put, List.getElem_toArray, List.getElem_cons_zero, List.setIfInBounds_toArray, List.set_cons_zero, List.set_cons_succ])
  refine wpAnyH_take (i := 1) (v := valV hd a F.len c) rfl (by kernel_rfl) (by kernel_rfl) (by kernel_rfl) (fun _ _ _ h => hp _ _ _ _ _ h) (Or.inl ⟨by rfl, ?_⟩) (by assumption) ?_
  · intro w hSw
    (try dsimp only at hSw)
    go_simp
  (try simp only [Act.put, List.getElem_toArray, List.getElem_cons_zero, List.getElem_cons_succ, List.setIfInBounds_toArray, List.set_cons_zero, List.set_cons_succ])
  have hB0 := (Below.refl W.heap.size W).drew
  refine wpAnyH_ready (rs := [2]) (by kernel_rfl) (by simp) ?_
  refine AllReadyH.cons rfl (fun K hK => ?_) AllReadyH.nil
  go_simp
  refine (toValue_any hd a c F _ hs hsn (HI.out _ hB0).1.1 hl hc (HI.out _ hB0).2.1).mono ?_
  rintro r w1 ⟨⟨nb1, m1, F1, rfl, ha1, hF1, hi1, _⟩, hb1⟩
  have HI1 : Hid ((hd.to m1).In w1) := hi1
  clear hi1
  have hB1 := hB0.trans (hb1.mono hB0.size)
  go_wp2_with fail
  refine hK.out _ _ (HSof.out _ hB1) (fun hHeld => ?_)
  clear hK K hB0 hb1
  have hl1 : F1.len ≤ maxLen := by rw [Vo.alike_len ha1]; exact Nat.le_trans hl hc
  have hl2 : F2.len ≤ maxLen := by rw [Vo.alike_len ha]; exact Nat.le_trans hl hc
  have ha21 := Vo.alike_trans ha (Vo.alike_sym ha1)
  refine wpAnyH_ready (rs := [3]) (by kernel_rfl) (by simp) ?_
  refine AllReadyH.cons rfl (fun K hK => ?_) AllReadyH.nil
  go_simp
  refine (eqValue_all (F2.size + 1) (hd.to n2) (hd.to m1) (some ⟨nb, 0, none⟩) (some ⟨nb1, 0, none⟩) F2.len F1.len F2 F1 _ (by omega) ha21 ⟨⟨rfl, rfl, rfl, rfl⟩, rfl⟩ (.inr ⟨nb, 0, rfl, (HI.out _ hB1).1.2⟩) (.inr ⟨nb1, 0, rfl, hF1⟩) (HI.out _ hB1).2.2 HI1.out (Nat.le_refl _) hl2 (Nat.le_refl _) hl1).mono ?_
  rintro r w2 ⟨rfl, hb2⟩
  have hB2 := hB1.trans (hb2.mono hB1.size)
  go_wp2_with fail
  refine hK.out _ _ (HSof.out _ hB2) (fun hHeld => ?_)
  clear hK K hb2
  refine wpAnyH_take (i := 4) (v := .bool false) rfl (by kernel_rfl) (by kernel_rfl) (by kernel_rfl) (fun _ _ _ h => hp _ _ _ _ _ h) (Or.inl ⟨by rfl, ?_⟩) (by assumption) ?_
  · intro w hSw
    (try dsimp only at hSw)
    go_simp
  (try simp only [Act.put, List.getElem_toArray, List.getElem_cons_zero, List.getElem_cons_succ, List.setIfInBounds_toArray, List.set_cons_zero, List.set_cons_succ])
  refine wpAnyH_done (by kernel_rfl) ?_ _
  exact h _ _ _ _ _ hB2
end Go.Proofs.Ytohldacplapjkaa
