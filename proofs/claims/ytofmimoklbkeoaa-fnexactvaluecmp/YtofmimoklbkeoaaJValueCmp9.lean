/- My own texts, joined: Cg FoO Vg LawVCmp. -/
import Derived.Test.YtofmimoklbkeoaaJValueCmp8
import Derived.Test.YtofmimoklbkeoaaJValueCmp0
import Derived.Deep.Slices
import Derived.OpenShut
/- How two values stand to each other: the law's regions that draw. -/
namespace Go.Proofs.Ytofmimoklbkeoaa
open Go.RowKit
set_option maxRecDepth 100000 in
set_option maxHeartbeats 1000000 in
theorem vc8 {Q : Exit → Act → World → Prop} {t0 t1 t4 t5 t6 t7 t8 t9 t10 t11 t12 t13 t14 t15 t16 t17 t18 t19 t20 t21 t22 t23 t24 t25 t26 t27 t28 t29 t30 t31 t32 t33 t34 t35 t36 t37 t38 t39 t40 t41 t42 t43 t44 : Value} {W : World} {b b2 : Nat} {hd : Hd} {a : Option Addr} {F : Vo} {c : Nat} {hd2 : Hd} {a2 : Option Addr} {G : Vo} {c2 : Nat}
    (hA : BxV b hd (.slice a F.len c) W) (hB : BxV b2 hd2 (.slice a2 G.len c2) W) (hin : F.In W a) (hin2 : G.In W a2) (hl : F.len ≤ c) (hc : c ≤ maxLen) (hh : hd.In W) (hs : F.wt ≤ 1048576) (hsn : hd.ns.length ≤ 1048576) (hl2 : G.len ≤ c2) (hc2 : c2 ≤ maxLen) (hh2 : hd2.In W) (hs2 : G.wt ≤ 1048576) (hsn2 : hd2.ns.length ≤ 1048576)
    (hp : ∀ p d v a w, Q (.panic p) (Act.put a d v) w → Q (.panic p) a w) (h : ∀ ws v20 v21 v22 v23 v24, Below W.heap.size W ws → Q .normal { tmps := (t0 :: t1 :: .pointer (some ⟨b, 0, none⟩) :: .pointer (some ⟨b2, 0, none⟩) :: t4 :: t5 :: .int .i64 (vcmp hd F hd2 G) :: t7 :: t8 :: t9 :: t10 :: t11 :: t12 :: t13 :: t14 :: t15 :: t16 :: t17 :: t18 :: t19 :: v20 :: v21 :: v22 :: v23 :: v24 :: t25 :: t26 :: t27 :: t28 :: t29 :: t30 :: t31 :: t32 :: t33 :: t34 :: t35 :: t36 :: t37 :: t38 :: t39 :: t40 :: t41 :: t42 :: t43 :: t44 :: []).toArray, defers := [] } ws) :
    Code.wp Try.prog (Code.region 8 #[{ dst := some 20, op := Op.load 27 (Operand.tmp 2), type := 27, pos := "exact.go:1340", after := #[], guard := none }, { dst := some 21, op := Op.call { callee := Callee.value (Operand.func 9), args := #[Operand.tmp 20], argTypes := #[27] }, type := 33, pos := "exact.go:1340", after := #[{ on := 0, ground := Ground.data }], guard := none }, { dst := some 22, op := Op.load 27 (Operand.tmp 3), type := 27, pos := "exact.go:1340", after := #[], guard := none }, { dst := some 23, op := Op.call { callee := Callee.value (Operand.func 9), args := #[Operand.tmp 22], argTypes := #[27] }, type := 33, pos := "exact.go:1340", after := #[{ on := 2, ground := Ground.data }, { on := 1, ground := Ground.chain }], guard := none }, { dst := some 24, op := Op.call { callee := Callee.value (Operand.func 12), args := #[Operand.tmp 21, Operand.tmp 23], argTypes := #[33, 33] }, type := 3, pos := "exact.go:1340", after := #[{ on := 1, ground := Ground.data }, { on := 3, ground := Ground.data }, { on := 3, ground := Ground.chain }], guard := none }, { dst := some 6, op := Op.assign (Operand.tmp 24), type := 3, pos := "exact.go:1340", after := #[{ on := 4, ground := Ground.data }, { on := 4, ground := Ground.chain }, { on := 0, ground := Ground.phase }, { on := 1, ground := Ground.phase }, { on := 2, ground := Ground.phase }, { on := 3, ground := Ground.phase }, { on := 4, ground := Ground.phase }], guard := none }] true) Q { tmps := (t0 :: t1 :: .pointer (some ⟨b, 0, none⟩) :: .pointer (some ⟨b2, 0, none⟩) :: t4 :: t5 :: t6 :: t7 :: t8 :: t9 :: t10 :: t11 :: t12 :: t13 :: t14 :: t15 :: t16 :: t17 :: t18 :: t19 :: t20 :: t21 :: t22 :: t23 :: t24 :: t25 :: t26 :: t27 :: t28 :: t29 :: t30 :: t31 :: t32 :: t33 :: t34 :: t35 :: t36 :: t37 :: t38 :: t39 :: t40 :: t41 :: t42 :: t43 :: t44 :: []).toArray, defers := [] } W := by
  have HSof : Hid (∀ w', Below W.heap.size W w' → (BxV b hd (.slice a F.len c) w' ∧ BxV b2 hd2 (.slice a2 G.len c2) w')) := fun w' h => ⟨hA.below h, hB.below h⟩
  have HI : Hid (∀ w', Below W.heap.size W w' → (F.In w' a ∧ G.In w' a2) ∧ hd.In w' ∧ hd2.In w') := fun w' h => ⟨⟨hin.grow h, hin2.grow h⟩, hh.grow h, hh2.grow h⟩
  have hS0 := HSof.out _ ((Below.refl _ W).drew)
  clear hA hB hin hin2
  refine wp_region_held_drew (S := fun w' => BxV b hd (.slice a F.len c) w' ∧ BxV b2 hd2 (.slice a2 G.len c2) w') (by kernel_rfl) hS0 (fun hHeld => ?_)
  refine wpAnyH_take (i := 0) (v := valV hd a F.len c) rfl (by kernel_rfl) (by kernel_rfl) (by kernel_rfl) (fun _ _ _ h => hp _ _ _ _ _ h) (Or.inl ⟨by rfl, ?_⟩) (by assumption) ?_
  · intro w hSw
    (try dsimp only at hSw)
    go_simp
  (try simp only [Act.put, List.getElem_toArray, List.getElem_cons_zero, List.setIfInBounds_toArray, List.set_cons_zero, List.set_cons_succ])
  refine wpAnyH_take (i := 2) (v := valV hd2 a2 G.len c2) rfl (by kernel_rfl) (by kernel_rfl) (by kernel_rfl) (fun _ _ _ h => hp _ _ _ _ _ h) (Or.inl ⟨by rfl, ?_⟩) (by assumption) ?_
  · intro w hSw
    (try dsimp only at hSw)
    go_simp
  (try simp only [Act.put, List.getElem_toArray, List.getElem_cons_zero, List.getElem_cons_succ, List.setIfInBounds_toArray, List.set_cons_zero, List.set_cons_succ])
  have hB0 := (Below.refl W.heap.size W).drew
  refine wpAnyH_ready (rs := [1]) (by kernel_rfl) (by simp) ?_
  refine AllReadyH.cons rfl (fun K hK => ?_) AllReadyH.nil
  go_simp
  refine (toValue_any hd a c F _ hs hsn (HI.out _ hB0).1.1 hl hc (HI.out _ hB0).2.1).mono ?_
  rintro r w1 ⟨⟨nb1, m1, F1, rfl, ha1, hF1, hi1, _⟩, hb1⟩
  have hB1 := hB0.trans (hb1.mono hB0.size)
  have HI1 : Hid ((hd.to m1).In w1) := hi1
  clear hi1
  go_wp2_with fail
  refine hK.out _ _ (HSof.out _ hB1) (fun hHeld => ?_)
  clear hK K hB0 hb1
  refine wpAnyH_ready (rs := [3]) (by kernel_rfl) (by simp) ?_
  refine AllReadyH.cons rfl (fun K hK => ?_) AllReadyH.nil
  go_simp
  refine (toValue_any hd2 a2 c2 G _ hs2 hsn2 (HI.out _ hB1).1.2 hl2 hc2 (HI.out _ hB1).2.2).mono ?_
  rintro r w2 ⟨⟨nb2, m2, G1, rfl, ha2, hG1, hi2, _⟩, hb2⟩
  have HI2 : Hid ((hd.to m1).In w2 ∧ (hd2.to m2).In w2) := ⟨HI1.out.grow hb2, hi2⟩
  clear hi2 HI1
  have hB2 := hB1.trans (hb2.mono hB1.size)
  have hF2 := Vo.from_grow hb2 F1 _ _ hF1
  go_wp2_with fail
  refine hK.out _ _ (HSof.out _ hB2) (fun hHeld => ?_)
  clear hK K hB1 hb2 hF1
  have hs1 : F1.size ≤ 1048576 := by rw [Vo.alike_size ha1]; exact Nat.le_trans F.size_wt hs
  have hs1g : G1.size ≤ 1048576 := by rw [Vo.alike_size ha2]; exact Nat.le_trans G.size_wt hs2
  have hlm1 : F1.len ≤ maxLen := by rw [Vo.alike_len ha1]; exact Nat.le_trans hl hc
  have hlm2 : G1.len ≤ maxLen := by rw [Vo.alike_len ha2]; exact Nat.le_trans hl2 hc2
  refine wpAnyH_ready (rs := [4]) (by kernel_rfl) (by simp) ?_
  refine AllReadyH.cons rfl (fun K hK => ?_) AllReadyH.nil
  go_simp
  refine (sValueCmp_any (hd.to m1) (some ⟨nb1, 0, none⟩) F1.len F1 (hd2.to m2) (some ⟨nb2, 0, none⟩) G1.len G1 _ hs1 hs1g (.inr ⟨nb1, 0, rfl, hF2⟩) (Nat.le_refl _) hlm1 HI2.out.1 (.inr ⟨nb2, 0, rfl, hG1⟩) (Nat.le_refl _) hlm2 HI2.out.2).mono ?_
  rintro r w3 ⟨rfl, hb3⟩
  have hB3 := hB2.trans (hb3.mono hB2.size)
  rw [vcmp_copy ha1 ha2]
  go_wp2_with fail
  refine hK.out _ _ (HSof.out _ hB3) (fun hHeld => ?_)
  clear hK K hb3
  refine wpAnyH_take (i := 5) (v := .int .i64 (vcmp hd F hd2 G)) rfl (by kernel_rfl) (by kernel_rfl) (by kernel_rfl) (fun _ _ _ h => hp _ _ _ _ _ h) (Or.inl ⟨by rfl, ?_⟩) (by assumption) ?_
  · intro w hSw
    (try dsimp only at hSw)
    go_simp
  (try simp only [Act.put, List.getElem_toArray, List.getElem_cons_zero, List.getElem_cons_succ, List.setIfInBounds_toArray, List.set_cons_zero, List.set_cons_succ])
  refine wpAnyH_done (by kernel_rfl) ?_ _
  exact h _ _ _ _ _ _ hB3
set_option maxRecDepth 100000 in
set_option maxHeartbeats 1000000 in
theorem vc14 {Q : Exit → Act → World → Prop} {t0 t1 t3 t4 t5 t6 t8 t9 t10 t11 t12 t13 t14 t15 t16 t17 t18 t19 t20 t21 t22 t23 t24 t25 t26 t27 t28 t29 t30 t31 t32 t33 t34 t35 t36 t37 t38 t39 t40 t41 t42 t43 t44 : Value} {W : World} {b bx nb n2 : Nat} {F2 : Vo} {hd : Hd} {a : Option Addr} {F : Vo} {c : Nat}
    (hA : BxV b hd (.slice a F.len c) W) (hX : BxV bx (hd.to n2) (.slice (some ⟨nb, 0, none⟩) F2.len F2.len) W) (hin : F.In W a) (hF2 : F2.From W nb 0) (hi2 : (hd.to n2).In W) (ha : F2.alike F) (hl : F.len ≤ c) (hc : c ≤ maxLen) (hh : hd.In W) (hs : F.wt ≤ 1048576) (hsn : hd.ns.length ≤ 1048576)
    (hp : ∀ p d v a w, Q (.panic p) (Act.put a d v) w → Q (.panic p) a w) (h : ∀ ws v35 v36 v37 v38, Below W.heap.size W ws → Q .normal { tmps := (t0 :: t1 :: .pointer (some ⟨b, 0, none⟩) :: t3 :: t4 :: t5 :: t6 :: .pointer (some ⟨bx, 0, none⟩) :: t8 :: t9 :: t10 :: t11 :: t12 :: t13 :: t14 :: t15 :: t16 :: t17 :: t18 :: t19 :: t20 :: t21 :: t22 :: t23 :: t24 :: t25 :: t26 :: t27 :: t28 :: t29 :: t30 :: t31 :: t32 :: t33 :: t34 :: v35 :: v36 :: v37 :: v38 :: .bool false :: t40 :: t41 :: t42 :: t43 :: t44 :: []).toArray, defers := [] } ws) :
    Code.wp Try.prog (Code.region 14 #[{ dst := some 35, op := Op.load 33 (Operand.tmp 7), type := 33, pos := "exact.go:1347", after := #[], guard := none }, { dst := some 36, op := Op.load 27 (Operand.tmp 2), type := 27, pos := "exact.go:1347", after := #[], guard := none }, { dst := some 37, op := Op.call { callee := Callee.value (Operand.func 9), args := #[Operand.tmp 36], argTypes := #[27] }, type := 33, pos := "exact.go:1347", after := #[{ on := 1, ground := Ground.data }], guard := none }, { dst := some 38, op := Op.call { callee := Callee.value (Operand.func 11), args := #[Operand.tmp 35, Operand.tmp 37], argTypes := #[33, 33] }, type := 4, pos := "exact.go:1347", after := #[{ on := 0, ground := Ground.data }, { on := 2, ground := Ground.data }, { on := 2, ground := Ground.chain }], guard := none }, { dst := some 39, op := Op.unOp UnOp.not 4 (Operand.tmp 38), type := 4, pos := "exact.go:1347", after := #[{ on := 3, ground := Ground.data }], guard := none }] true) Q { tmps := (t0 :: t1 :: .pointer (some ⟨b, 0, none⟩) :: t3 :: t4 :: t5 :: t6 :: .pointer (some ⟨bx, 0, none⟩) :: t8 :: t9 :: t10 :: t11 :: t12 :: t13 :: t14 :: t15 :: t16 :: t17 :: t18 :: t19 :: t20 :: t21 :: t22 :: t23 :: t24 :: t25 :: t26 :: t27 :: t28 :: t29 :: t30 :: t31 :: t32 :: t33 :: t34 :: t35 :: t36 :: t37 :: t38 :: t39 :: t40 :: t41 :: t42 :: t43 :: t44 :: []).toArray, defers := [] } W := by
  have HSof : Hid (∀ w', Below W.heap.size W w' → (BxV b hd (.slice a F.len c) w' ∧ BxV bx (hd.to n2) (.slice (some ⟨nb, 0, none⟩) F2.len F2.len) w')) := fun w' h => ⟨hA.below h, hX.below h⟩
  have HI : Hid (∀ w', Below W.heap.size W w' → (F.In w' a ∧ F2.From w' nb 0) ∧ hd.In w' ∧ (hd.to n2).In w') := fun w' h => ⟨⟨hin.grow h, Vo.from_grow h F2 _ _ hF2⟩, hh.grow h, hi2.grow h⟩
  have hS0 := HSof.out _ ((Below.refl _ W).drew)
  clear hA hX hin hF2
  refine wp_region_held_drew (S := fun w' => BxV b hd (.slice a F.len c) w' ∧ BxV bx (hd.to n2) (.slice (some ⟨nb, 0, none⟩) F2.len F2.len) w') (by kernel_rfl) hS0 (fun hHeld => ?_)
  refine wpAnyH_take (i := 0) (v := valV (hd.to n2) (some ⟨nb, 0, none⟩) F2.len F2.len) rfl (by kernel_rfl) (by kernel_rfl) (by kernel_rfl) (fun _ _ _ h => hp _ _ _ _ _ h) (Or.inl ⟨by rfl, ?_⟩) (by assumption) ?_
  · intro w hSw
    (try dsimp only at hSw)
    go_simp
  (try simp only [Act.put, List.getElem_toArray, List.getElem_cons_zero, List.setIfInBounds_toArray, List.set_cons_zero, List.set_cons_succ])
  refine wpAnyH_take (i := 1) (v := valV hd a F.len c) rfl (by kernel_rfl) (by kernel_rfl) (by kernel_rfl) (fun _ _ _ h => hp _ _ _ _ _ h) (Or.inl ⟨by rfl, ?_⟩) (by assumption) ?_
  · intro w hSw
    (try dsimp only at hSw)
    go_simp
  (try simp only [Act.put, List.getElem_toArray, List.getElem_cons_zero, List.getElem_cons_succ, List.setIfInBounds_toArray, List.set_cons_zero, List.set_cons_succ])
  have hB0 := (Below.refl W.heap.size W).drew
  refine wpAnyH_ready (rs := [2]) (by kernel_rfl) (by simp) ?_
  refine AllReadyH.cons rfl (fun K hK => ?_) AllReadyH.nil
  go_simp
  refine (toValue_any hd a c F _ hs hsn (HI.out _ hB0).1.1 hl hc (HI.out _ hB0).2.1).mono ?_
  rintro r w1 ⟨⟨nb1, m1, F1, rfl, ha1, hF1, hi1, _⟩, hb1⟩
  have HI1 : Hid ((hd.to m1).In w1) := hi1
  clear hi1
  have hB1 := hB0.trans (hb1.mono hB0.size)
  go_wp2_with fail
  refine hK.out _ _ (HSof.out _ hB1) (fun hHeld => ?_)
  clear hK K hB0 hb1
  have hl1 : F1.len ≤ maxLen := by rw [Vo.alike_len ha1]; exact Nat.le_trans hl hc
  have hl2 : F2.len ≤ maxLen := by rw [Vo.alike_len ha]; exact Nat.le_trans hl hc
  have ha21 := Vo.alike_trans ha (Vo.alike_sym ha1)
  refine wpAnyH_ready (rs := [3]) (by kernel_rfl) (by simp) ?_
  refine AllReadyH.cons rfl (fun K hK => ?_) AllReadyH.nil
  go_simp
  refine (eqValue_all (F2.size + 1) (hd.to n2) (hd.to m1) (some ⟨nb, 0, none⟩) (some ⟨nb1, 0, none⟩) F2.len F1.len F2 F1 _ (by omega) ha21 ⟨⟨rfl, rfl, rfl, rfl⟩, rfl⟩ (.inr ⟨nb, 0, rfl, (HI.out _ hB1).1.2⟩) (.inr ⟨nb1, 0, rfl, hF1⟩) (HI.out _ hB1).2.2 HI1.out (Nat.le_refl _) hl2 (Nat.le_refl _) hl1).mono ?_
  rintro r w2 ⟨rfl, hb2⟩
  have hB2 := hB1.trans (hb2.mono hB1.size)
  go_wp2_with fail
  refine hK.out _ _ (HSof.out _ hB2) (fun hHeld => ?_)
  clear hK K hb2
  refine wpAnyH_take (i := 4) (v := .bool false) rfl (by kernel_rfl) (by kernel_rfl) (by kernel_rfl) (fun _ _ _ h => hp _ _ _ _ _ h) (Or.inl ⟨by rfl, ?_⟩) (by assumption) ?_
  · intro w hSw
    (try dsimp only at hSw)
    go_simp
  (try simp only [Act.put, List.getElem_toArray, List.getElem_cons_zero, List.getElem_cons_succ, List.setIfInBounds_toArray, List.set_cons_zero, List.set_cons_succ])
  refine wpAnyH_done (by kernel_rfl) ?_ _
  exact h _ _ _ _ _ hB2
set_option maxRecDepth 100000 in
set_option maxHeartbeats 1000000 in
theorem vc16 {Q : Exit → Act → World → Prop} {t0 t1 t2 t4 t5 t6 t7 t9 t10 t11 t12 t13 t14 t15 t16 t17 t18 t19 t20 t21 t22 t23 t24 t25 t26 t27 t28 t29 t30 t31 t32 t33 t34 t35 t36 t37 t38 t39 t40 t41 t42 t43 t44 : Value} {W : World} {b bx nb n2 : Nat} {F2 : Vo} {hd : Hd} {a : Option Addr} {F : Vo} {c : Nat}
    (hA : BxV b hd (.slice a F.len c) W) (hX : BxV bx (hd.to n2) (.slice (some ⟨nb, 0, none⟩) F2.len F2.len) W) (hin : F.In W a) (hF2 : F2.From W nb 0) (hi2 : (hd.to n2).In W) (ha : F2.alike F) (hl : F.len ≤ c) (hc : c ≤ maxLen) (hh : hd.In W) (hs : F.wt ≤ 1048576) (hsn : hd.ns.length ≤ 1048576)
    (hp : ∀ p d v a w, Q (.panic p) (Act.put a d v) w → Q (.panic p) a w) (h : ∀ ws v40 v41 v42 v43, Below W.heap.size W ws → Q .normal { tmps := (t0 :: t1 :: t2 :: .pointer (some ⟨b, 0, none⟩) :: t4 :: t5 :: t6 :: t7 :: .pointer (some ⟨bx, 0, none⟩) :: t9 :: t10 :: t11 :: t12 :: t13 :: t14 :: t15 :: t16 :: t17 :: t18 :: t19 :: t20 :: t21 :: t22 :: t23 :: t24 :: t25 :: t26 :: t27 :: t28 :: t29 :: t30 :: t31 :: t32 :: t33 :: t34 :: t35 :: t36 :: t37 :: t38 :: t39 :: v40 :: v41 :: v42 :: v43 :: .bool false :: []).toArray, defers := [] } ws) :
    Code.wp Try.prog (Code.region 16 #[{ dst := some 40, op := Op.load 33 (Operand.tmp 8), type := 33, pos := "exact.go:1350", after := #[], guard := none }, { dst := some 41, op := Op.load 27 (Operand.tmp 3), type := 27, pos := "exact.go:1350", after := #[], guard := none }, { dst := some 42, op := Op.call { callee := Callee.value (Operand.func 9), args := #[Operand.tmp 41], argTypes := #[27] }, type := 33, pos := "exact.go:1350", after := #[{ on := 1, ground := Ground.data }], guard := none }, { dst := some 43, op := Op.call { callee := Callee.value (Operand.func 11), args := #[Operand.tmp 40, Operand.tmp 42], argTypes := #[33, 33] }, type := 4, pos := "exact.go:1350", after := #[{ on := 0, ground := Ground.data }, { on := 2, ground := Ground.data }, { on := 2, ground := Ground.chain }], guard := none }, { dst := some 44, op := Op.unOp UnOp.not 4 (Operand.tmp 43), type := 4, pos := "exact.go:1350", after := #[{ on := 3, ground := Ground.data }], guard := none }] true) Q { tmps := (t0 :: t1 :: t2 :: .pointer (some ⟨b, 0, none⟩) :: t4 :: t5 :: t6 :: t7 :: .pointer (some ⟨bx, 0, none⟩) :: t9 :: t10 :: t11 :: t12 :: t13 :: t14 :: t15 :: t16 :: t17 :: t18 :: t19 :: t20 :: t21 :: t22 :: t23 :: t24 :: t25 :: t26 :: t27 :: t28 :: t29 :: t30 :: t31 :: t32 :: t33 :: t34 :: t35 :: t36 :: t37 :: t38 :: t39 :: t40 :: t41 :: t42 :: t43 :: t44 :: []).toArray, defers := [] } W := by
  have HSof : Hid (∀ w', Below W.heap.size W w' → (BxV b hd (.slice a F.len c) w' ∧ BxV bx (hd.to n2) (.slice (some ⟨nb, 0, none⟩) F2.len F2.len) w')) := fun w' h => ⟨hA.below h, hX.below h⟩
  have HI : Hid (∀ w', Below W.heap.size W w' → (F.In w' a ∧ F2.From w' nb 0) ∧ hd.In w' ∧ (hd.to n2).In w') := fun w' h => ⟨⟨hin.grow h, Vo.from_grow h F2 _ _ hF2⟩, hh.grow h, hi2.grow h⟩
  have hS0 := HSof.out _ ((Below.refl _ W).drew)
  clear hA hX hin hF2
  refine wp_region_held_drew (S := fun w' => BxV b hd (.slice a F.len c) w' ∧ BxV bx (hd.to n2) (.slice (some ⟨nb, 0, none⟩) F2.len F2.len) w') (by kernel_rfl) hS0 (fun hHeld => ?_)
  refine wpAnyH_take (i := 0) (v := valV (hd.to n2) (some ⟨nb, 0, none⟩) F2.len F2.len) rfl (by kernel_rfl) (by kernel_rfl) (by kernel_rfl) (fun _ _ _ h => hp _ _ _ _ _ h) (Or.inl ⟨by rfl, ?_⟩) (by assumption) ?_
  · intro w hSw
    (try dsimp only at hSw)
    go_simp
  (try simp only [Act.put, List.getElem_toArray, List.getElem_cons_zero, List.setIfInBounds_toArray, List.set_cons_zero, List.set_cons_succ])
  refine wpAnyH_take (i := 1) (v := valV hd a F.len c) rfl (by kernel_rfl) (by kernel_rfl) (by kernel_rfl) (fun _ _ _ h => hp _ _ _ _ _ h) (Or.inl ⟨by rfl, ?_⟩) (by assumption) ?_
  · intro w hSw
    (try dsimp only at hSw)
    go_simp
  (try simp only [Act.put, List.getElem_toArray, List.getElem_cons_zero, List.getElem_cons_succ, List.setIfInBounds_toArray, List.set_cons_zero, List.set_cons_succ])
  have hB0 := (Below.refl W.heap.size W).drew
  refine wpAnyH_ready (rs := [2]) (by kernel_rfl) (by simp) ?_
  refine AllReadyH.cons rfl (fun K hK => ?_) AllReadyH.nil
  go_simp
  refine (toValue_any hd a c F _ hs hsn (HI.out _ hB0).1.1 hl hc (HI.out _ hB0).2.1).mono ?_
  rintro r w1 ⟨⟨nb1, m1, F1, rfl, ha1, hF1, hi1, _⟩, hb1⟩
  have HI1 : Hid ((hd.to m1).In w1) := hi1
  clear hi1
  have hB1 := hB0.trans (hb1.mono hB0.size)
  go_wp2_with fail
  refine hK.out _ _ (HSof.out _ hB1) (fun hHeld => ?_)
  clear hK K hB0 hb1
  have hl1 : F1.len ≤ maxLen := by rw [Vo.alike_len ha1]; exact Nat.le_trans hl hc
  have hl2 : F2.len ≤ maxLen := by rw [Vo.alike_len ha]; exact Nat.le_trans hl hc
  have ha21 := Vo.alike_trans ha (Vo.alike_sym ha1)
  refine wpAnyH_ready (rs := [3]) (by kernel_rfl) (by simp) ?_
  refine AllReadyH.cons rfl (fun K hK => ?_) AllReadyH.nil
  go_simp
  refine (eqValue_all (F2.size + 1) (hd.to n2) (hd.to m1) (some ⟨nb, 0, none⟩) (some ⟨nb1, 0, none⟩) F2.len F1.len F2 F1 _ (by omega) ha21 ⟨⟨rfl, rfl, rfl, rfl⟩, rfl⟩ (.inr ⟨nb, 0, rfl, (HI.out _ hB1).1.2⟩) (.inr ⟨nb1, 0, rfl, hF1⟩) (HI.out _ hB1).2.2 HI1.out (Nat.le_refl _) hl2 (Nat.le_refl _) hl1).mono ?_
  rintro r w2 ⟨rfl, hb2⟩
  have hB2 := hB1.trans (hb2.mono hB1.size)
  go_wp2_with fail
  refine hK.out _ _ (HSof.out _ hB2) (fun hHeld => ?_)
  clear hK K hb2
  refine wpAnyH_take (i := 4) (v := .bool false) rfl (by kernel_rfl) (by kernel_rfl) (by kernel_rfl) (fun _ _ _ h => hp _ _ _ _ _ h) (Or.inl ⟨by rfl, ?_⟩) (by assumption) ?_
  · intro w hSw
    (try dsimp only at hSw)
    go_simp
  (try simp only [Act.put, List.getElem_toArray, List.getElem_cons_zero, List.getElem_cons_succ, List.setIfInBounds_toArray, List.set_cons_zero, List.set_cons_succ])
  refine wpAnyH_done (by kernel_rfl) ?_ _
  exact h _ _ _ _ _ hB2
end Go.Proofs.Ytofmimoklbkeoaa
/- Trees: what is read as a tree, or as a list of trees, is one: the argument of a law opened. -/
namespace Go.Proofs.Ytofmimoklbkeoaa
open Go.RowKit Go.Deep Go.ChangeShapes Go.WideShapes
/-- all heads in it are such -/
def Fo.All (P : Int → ByteArray → Int → Int → Prop) : Fo → Prop
  | .nil => True
  | .cons k t m e _ _ kids next => P k t m e ∧ kids.All P ∧ next.All P
abbrev I64 (n : Int) : Prop := (Lit.int .i64 n).wf = true
/-- numbers that are numbers, texts that are no longer than texts can be -/
abbrev HeadOk (k : Int) (t : ByteArray) (m e : Int) : Prop := I64 k ∧ t.size ≤ maxLen ∧ I64 m ∧ I64 e
section
variable {H : Type} {enc : TypeId × Value → H} {W : World} {base : Nat} {spare : Nat → Bool} {held : Bool}
theorem cellsDec : Try.prog.cellsOf 23 = 2 := by kernel_rfl
theorem cellsInt : Try.prog.cellsOf 3 = 1 := by kernel_rfl
theorem cellsStr : Try.prog.cellsOf 9 = 1 := by kernel_rfl
theorem list5 {α : Type} {cs : List α} (h : cs.length = 5) : ∃ c0 c1 c2 c3 c4, cs = [c0, c1, c2, c3, c4] := by
  match cs, h with
  | [c0, c1, c2, c3, c4], _ => exact ⟨c0, c1, c2, c3, c4, rfl⟩
theorem list4 {α : Type} {cs : List α} (h : cs.length = 4) : ∃ c0 c1 c2 c3, cs = [c0, c1, c2, c3] := by
  match cs, h with
  | [c0, c1, c2, c3], _ => exact ⟨c0, c1, c2, c3, rfl⟩
theorem list2 {α : Type} {cs : List α} (h : cs.length = 2) : ∃ c0 c1, cs = [c0, c1] := by
  match cs, h with
  | [c0, c1], _ => exact ⟨c0, c1, rfl⟩
theorem open_dec {fuel : Nat} {cs : List Value} {x : DataW H × List MemPlace} (h : DataW.trod enc Try.prog W base spare held fuel 23 cs = some x) :
    ∃ (m e : Int), cs = [.int .i64 m, .int .i64 e] ∧ I64 m ∧ I64 e := by
  obtain ⟨xs, n, rfl, _, hl, hxs, hf⟩ := DataW.trod_struct Try.underlying23 h
  rw [cellsDec] at hl
  obtain ⟨c0, c1, rfl⟩ := list2 hl
  obtain ⟨y0, y1, rfl⟩ := list2 (show xs.length = 2 from hxs)
  have h0 := hf 0 _ rfl
  have h1 := hf 1 _ rfl
  simp [cellsInt] at h0 h1
  obtain ⟨m, e0, _, w0⟩ := DataW.trod_int Try.underlying3 h0
  obtain ⟨e, e1, _, w1⟩ := DataW.trod_int Try.underlying3 h1
  simp at e0 e1
  subst e0 e1
  exact ⟨m, e, rfl, w0, w1⟩
theorem add_none (b o i : Nat) : Addr.add ⟨b, o, none⟩ i = ⟨b, o + i, none⟩ := by
  by_cases hi0 : i = 0
  · subst hi0; simp [Addr.add]
  · simp [Addr.add, hi0]
end
end Go.Proofs.Ytofmimoklbkeoaa
/- Values: what is read as a value, or as a list of values, is one: the argument of a law opened. -/
namespace Go.Proofs.Ytofmimoklbkeoaa
open Go.RowKit Go.Deep Go.ChangeShapes Go.WideShapes
section
variable {H : Type} {enc : TypeId × Value → H} {W : World} {base : Nat} {spare : Nat → Bool} {held : Bool}
theorem cellsV : Try.prog.cellsOf 27 = 6 := by kernel_rfl
theorem cellsVs : Try.prog.cellsOf 24 = 1 := by kernel_rfl
theorem cellsSs : Try.prog.cellsOf 25 = 1 := by kernel_rfl
theorem list6 {α : Type} {cs : List α} (h : cs.length = 6) : ∃ c0 c1 c2 c3 c4 c5, cs = [c0, c1, c2, c3, c4, c5] := by
  match cs, h with
  | [c0, c1, c2, c3, c4, c5], _ => exact ⟨c0, c1, c2, c3, c4, c5, rfl⟩
theorem list5' {α : Type} {cs : List α} (h : cs.length = 5) : ∃ c0 c1 c2 c3 c4, cs = [c0, c1, c2, c3, c4] := by
  match cs, h with
  | [c0, c1, c2, c3, c4], _ => exact ⟨c0, c1, c2, c3, c4, rfl⟩
theorem open_strs {fuel : Nat} {cs : List Value} {x : DataW H × List MemPlace} (h : DataW.trod enc Try.prog W base spare held fuel 25 cs = some x) :
    ∃ (a : Option Addr) (ss : List ByteArray) (cap : Nat), cs = [.slice a ss.length cap] ∧ SIn W ss a ∧ ss.length ≤ cap ∧ cap ≤ maxLen := by
  rcases DataW.trod_slice Try.underlying25 h with ⟨rfl, _⟩ | ⟨a, len, cap, elems, rest, n, rfl, rfl, _, _, hl, hm, hlen, hel, _⟩
  · exact ⟨none, [], 0, rfl, .inl rfl, Nat.le_refl _, by unfold maxLen; omega⟩
  rw [cellsStr] at hel
  have key : ∀ i, i < len → ∃ t : ByteArray, t.size ≤ maxLen ∧ W.cell? (a.add i) = some (.string t) := by
    intro i hi
    have he := hel i hi
    rw [List.getElem?_eq_getElem (by omega)] at he
    obtain ⟨cs', h1, h2⟩ := Option.bind_eq_some_iff.1 he
    obtain ⟨t, e1, _, w1⟩ := DataW.trod_string Try.underlying9 h2
    subst e1
    obtain ⟨_, _, hc⟩ := World.cells?_some h1
    have h3 := hc 0 (by omega)
    refine ⟨t, w1, ?_⟩
    rw [add_add, Nat.mul_one, Nat.add_zero] at h3
    exact h3
  by_cases h0 : len = 0
  · subst h0
    exact ⟨some a, [], cap, rfl, .inl rfl, Nat.zero_le _, hm⟩
  obtain ⟨b, o, spot⟩ := a
  have hspot : spot = none := by
    obtain ⟨t, _, hc⟩ := key 0 (by omega)
    have := World.cell?_spot hc
    simpa [Addr.add] using this
  subst hspot
  have all : ∀ d i, i + d = len → ∃ ss : List ByteArray, ss.length = d ∧ SFrom W ss b (o + i) := by
    intro d
    induction d with
    | zero => intro i _; exact ⟨[], rfl, trivial⟩
    | succ d ihd =>
      intro i hi
      obtain ⟨t, h1, hc⟩ := key i (by omega)
      obtain ⟨ss, hs1, hs2⟩ := ihd (i + 1) (by omega)
      rw [add_none] at hc
      exact ⟨t :: ss, by rw [List.length_cons, hs1], hc, h1, by rw [show o + i + 1 = o + (i + 1) by omega]; exact hs2⟩
  obtain ⟨ss, hs1, hs2⟩ := all len 0 (by omega)
  subst hs1
  exact ⟨some ⟨b, o, none⟩, ss, cap, rfl, .inr ⟨b, o, rfl, by simpa using hs2⟩, hl, hm⟩
theorem open_val {fuel : Nat} {cs : List Value} {x : DataW H × List MemPlace} (h : DataW.trod enc Try.prog W base spare held fuel 27 cs = some x) :
    ∃ (hd : Hd) (v : Value) (y : DataW H × List MemPlace) (n : Nat), fuel = n + 1 ∧ cs = [.int .i64 hd.k, .int .i64 hd.m, .int .i64 hd.e, .string hd.t, v, .slice hd.na hd.ns.length hd.nc] ∧ hd.In W ∧
      DataW.trod enc Try.prog W base spare held n 24 [v] = some y := by
  obtain ⟨xs, n, rfl, _, hl, hxs, hf⟩ := DataW.trod_struct Try.underlying27 h
  rw [cellsV] at hl
  obtain ⟨c0, c1, c2, c3, c4, c5, rfl⟩ := list6 hl
  obtain ⟨y0, y1, y2, y3, y4, rfl⟩ := list5' (show xs.length = 5 from hxs)
  have h0 := hf 0 _ rfl
  have h1 := hf 1 _ rfl
  have h2 := hf 2 _ rfl
  have h3 := hf 3 _ rfl
  have h4 := hf 4 _ rfl
  simp [cellsInt, cellsStr, cellsDec, cellsVs, cellsSs] at h0 h1 h2 h3 h4
  obtain ⟨k, e0, _, w0⟩ := DataW.trod_int Try.underlying3 h0
  obtain ⟨m, e, e2, w2, w3⟩ := open_dec h1
  obtain ⟨t, e1, _, w1⟩ := DataW.trod_string Try.underlying9 h2
  obtain ⟨na, ns, nc, e4, i1, i2, i3⟩ := open_strs h4
  simp at e0 e1 e2 e4
  obtain ⟨rfl, rfl⟩ := e2
  subst e0 e1 e4
  exact ⟨⟨k, m, e, t, na, nc, ns⟩, c4, y3, n, rfl, rfl, ⟨i1, ⟨i2, i3⟩, w1⟩, h3⟩
theorem open_vals : ∀ (fuel : Nat) (cs : List Value) (x : DataW H × List MemPlace), DataW.trod enc Try.prog W base spare held fuel 24 cs = some x →
    ∃ (a : Option Addr) (F : Vo) (cap : Nat), cs = [.slice a F.len cap] ∧ F.In W a ∧ F.len ≤ cap ∧ cap ≤ maxLen := by
  intro fuel
  induction fuel using Nat.strongRecOn with
  | _ fuel ih =>
    intro cs x h
    rcases DataW.trod_slice Try.underlying24 h with ⟨rfl, _⟩ | ⟨a, len, cap, elems, rest, n, rfl, rfl, _, _, hl, hm, hlen, hel, _⟩
    · exact ⟨none, .nil, 0, rfl, .inl rfl, Nat.le_refl _, by unfold maxLen; omega⟩
    rw [cellsV] at hel
    have key : ∀ i, i < len → ∃ (hd : Hd) (a' : Option Addr) (F' : Vo) (c' : Nat), hd.In W ∧ F'.In W a' ∧ F'.len ≤ c' ∧ c' ≤ maxLen ∧
        (∀ j, j < 6 → W.cell? (a.add (i * 6 + j)) = ([.int .i64 hd.k, .int .i64 hd.m, .int .i64 hd.e, .string hd.t, .slice a' F'.len c', .slice hd.na hd.ns.length hd.nc] : List Value)[j]?) := by
      intro i hi
      have he := hel i hi
      rw [List.getElem?_eq_getElem (by omega)] at he
      obtain ⟨cs', h1, h2⟩ := Option.bind_eq_some_iff.1 he
      obtain ⟨hd, v, y, n', rfl, rfl, hh, h3⟩ := open_val h2
      obtain ⟨a', F', c', hv, hin, hc1, hc2⟩ := ih n' (by omega) _ _ h3
      simp at hv
      subst hv
      obtain ⟨_, _, hc⟩ := World.cells?_some h1
      refine ⟨hd, a', F', c', hh, hin, hc1, hc2, fun j hj => ?_⟩
      rw [← add_add]
      exact hc j hj
    by_cases h0 : len = 0
    · subst h0
      exact ⟨some a, .nil, cap, rfl, .inl rfl, Nat.zero_le _, hm⟩
    obtain ⟨b, o, spot⟩ := a
    have hspot : spot = none := by
      obtain ⟨hd, a', F', c', _, _, _, _, hc⟩ := key 0 (by omega)
      have := World.cell?_spot (hc 0 (by omega))
      simpa [Addr.add] using this
    subst hspot
    have all : ∀ d i, i + d = len → ∃ G : Vo, G.len = d ∧ G.From W b (o + i * 6) := by
      intro d
      induction d with
      | zero => intro i _; exact ⟨.nil, rfl, trivial⟩
      | succ d ihd =>
        intro i hi
        obtain ⟨hd, a', F', c', hh, hin, hc1, hc2, hc⟩ := key i (by omega)
        obtain ⟨G, hG1, hG2⟩ := ihd (i + 1) (by omega)
        have c0 := hc 0 (by omega)
        have c1 := hc 1 (by omega)
        have c2 := hc 2 (by omega)
        have c3 := hc 3 (by omega)
        have c4 := hc 4 (by omega)
        have c5 := hc 5 (by omega)
        simp only [add_none] at c0 c1 c2 c3 c4 c5
        refine ⟨.cons hd a' c' F' G, by show G.len + 1 = d + 1; omega, ⟨c0, c1, c2, c3, c4, c5⟩, hin, ⟨hc1, hc2⟩, hh, ?_⟩
        rw [show o + i * 6 + 6 = o + (i + 1) * 6 by omega]; exact hG2
    obtain ⟨F, hF1, hF2⟩ := all len 0 (by omega)
    subst hF1
    refine ⟨some ⟨b, o, none⟩, F, cap, rfl, .inr ⟨b, o, rfl, by simpa using hF2⟩, hl, hm⟩
set_option maxRecDepth 100000 in
/-- a value that comes in, opened -/
theorem open_value {r : Reach} {b0 : Nat} {v : Value} {d : DataW H} {p : List MemPlace} (hv : Value.okWide Try.prog W r b0 27 v) (h : DataW.Trod enc Try.prog W base spare held 27 v d p) :
    ∃ (hd : Hd) (a : Option Addr) (F : Vo) (c : Nat), v = valV hd a F.len c ∧ hd.In W ∧ F.In W a ∧ F.len ≤ c ∧ c ≤ maxLen := by
  obtain ⟨cs, rfl, _⟩ := okWide_struct Try.underlying27 hv
  obtain ⟨fuel, hf⟩ := h
  obtain ⟨hd, v, y, n, rfl, hc, hh, h3⟩ := open_val hf
  obtain ⟨a, F, c, hv, hin, hc1, hc2⟩ := open_vals n _ _ h3
  simp at hv
  subst hv
  have : cs = #[.int .i64 hd.k, .int .i64 hd.m, .int .i64 hd.e, .string hd.t, .slice a F.len c, .slice hd.na hd.ns.length hd.nc] := by
    cases cs
    simpa [Value.cells] using hc
  subst this
  exact ⟨hd, a, F, c, rfl, hh, hin, hc1, hc2⟩
end
end Go.Proofs.Ytofmimoklbkeoaa
/- The law FnExactValueCmp walked. -/
namespace Go.Proofs.Ytofmimoklbkeoaa
open Go.RowKit
set_option maxRecDepth 100000 in
set_option maxHeartbeats 2000000 in
theorem walk_FnExactValueCmp (hd : Hd) (a : Option Addr) (F : Vo) (c : Nat) (hd2 : Hd) (a2 : Option Addr) (G : Vo) (c2 : Nat) (w : World) (hh : hd.In w) (hin : F.In w a) (hl : F.len ≤ c) (hc : c ≤ maxLen) (hh2 : hd2.In w) (hin2 : G.In w a2) (hl2 : G.len ≤ c2) (hc2 : c2 ≤ maxLen) :
    Calls Try.prog 4 #[valV hd a F.len c, valV hd2 a2 G.len c2] w fun r w' => r = .returned (.bool true) ∧ Below w.heap.size w w' := by
  have hsw := len_sWt hd.ns
  have hsw2 := len_sWt hd2.ns
  have hBp : Below w.heap.size w ((w.alloc (.cells #[.int .i64 hd.k, .int .i64 hd.m, .int .i64 hd.e, .string hd.t, .slice a F.len c, .slice hd.na hd.ns.length hd.nc] 27)).alloc (.cells #[.int .i64 hd2.k, .int .i64 hd2.m, .int .i64 hd2.e, .string hd2.t, .slice a2 G.len c2, .slice hd2.na hd2.ns.length hd2.nc] 27)) := ((Below.refl _ w).alloc (Nat.le_refl _) _).alloc (by simp) _
  have hAp : BxV w.heap.size hd (.slice a F.len c) ((w.alloc (.cells #[.int .i64 hd.k, .int .i64 hd.m, .int .i64 hd.e, .string hd.t, .slice a F.len c, .slice hd.na hd.ns.length hd.nc] 27)).alloc (.cells #[.int .i64 hd2.k, .int .i64 hd2.m, .int .i64 hd2.e, .string hd2.t, .slice a2 G.len c2, .slice hd2.na hd2.ns.length hd2.nc] 27)) := (BxV.new w hd (.slice a F.len c) 27).below ((Below.refl _ _).alloc (Nat.le_refl _) _)
  have hBq : BxV (w.heap.size + 1) hd2 (.slice a2 G.len c2) ((w.alloc (.cells #[.int .i64 hd.k, .int .i64 hd.m, .int .i64 hd.e, .string hd.t, .slice a F.len c, .slice hd.na hd.ns.length hd.nc] 27)).alloc (.cells #[.int .i64 hd2.k, .int .i64 hd2.m, .int .i64 hd2.e, .string hd2.t, .slice a2 G.len c2, .slice hd2.na hd2.ns.length hd2.nc] 27)) := by have h := BxV.new (w.alloc (.cells #[.int .i64 hd.k, .int .i64 hd.m, .int .i64 hd.e, .string hd.t, .slice a F.len c, .slice hd.na hd.ns.length hd.nc] 27)) hd2 (.slice a2 G.len c2) 27; have e : (w.alloc (.cells #[.int .i64 hd.k, .int .i64 hd.m, .int .i64 hd.e, .string hd.t, .slice a F.len c, .slice hd.na hd.ns.length hd.nc] 27)).heap.size = w.heap.size + 1 := (by simp); rw [e] at h; exact h
  go_enter Try.func4, Try.ntmps4
  obtain ⟨wp, hwp⟩ : ∃ wp, ((w.alloc (.cells #[.int .i64 hd.k, .int .i64 hd.m, .int .i64 hd.e, .string hd.t, .slice a F.len c, .slice hd.na hd.ns.length hd.nc] 27)).alloc (.cells #[.int .i64 hd2.k, .int .i64 hd2.m, .int .i64 hd2.e, .string hd2.t, .slice a2 G.len c2, .slice hd2.na hd2.ns.length hd2.nc] 27)) = wp := ⟨_, rfl⟩
  rw [hwp] at hBp hAp hBq
  have HX : Hid (∀ W, Below wp.heap.size wp W → BxV w.heap.size hd (.slice a F.len c) W ∧ BxV (w.heap.size + 1) hd2 (.slice a2 G.len c2) W) := fun W h => ⟨hAp.below h, hBq.below h⟩
  have HI : Hid (∀ W, Below wp.heap.size wp W → (F.In W a ∧ G.In W a2) ∧ hd.In W ∧ hd2.In W) := fun W h => ⟨⟨hin.grow (hBp.trans (h.mono hBp.size)), hin2.grow (hBp.trans (h.mono hBp.size))⟩, hh.grow (hBp.trans (h.mono hBp.size)), hh2.grow (hBp.trans (h.mono hBp.size))⟩
  have HB : Hid (∀ W, Below wp.heap.size wp W → Below w.heap.size w W) := fun W h => hBp.trans (h.mono hBp.size)
  have hB0 := Below.refl wp.heap.size wp
  have hwp' := hwp.symm
  clear hwp hin hin2 hAp hBq hBp hh hh2
  obtain ⟨⟨x0, x1, x2, x3, x4, x5⟩, y0, y1, y2, y3, y4, y5⟩ := HX.out _ hB0
  go_wp2_with fail
  rw [← hwp']
  clear hwp'
  refine (szValue_any hd a c F wp 1048576 (HI.out _ hB0).1.1 hl hc (HI.out _ hB0).2.1 (by omega)).mono ?_
  rintro r w1 ⟨rfl, hb1⟩
  have hB1 := hb1
  clear x0 x1 x2 x3 x4 x5 y0 y1 y2 y3 y4 y5
  obtain ⟨⟨x0, x1, x2, x3, x4, x5⟩, y0, y1, y2, y3, y4, y5⟩ := HX.out _ hB1
  clear hb1 hB0
  by_cases hneed : hd.t.size + F.wt + sWt hd.ns ≤ 1048576
  case neg =>
    have hd : leftOf (hd.t.size + F.wt + sWt hd.ns) 1048576 = -1 := by unfold leftOf; rw [if_neg hneed]
    rw [hd]
    go_wp2_with fail
    go_ret
    exact ⟨rfl, HB.out _ hB1⟩
  obtain ⟨d, hd, hdd⟩ : ∃ d : Nat, leftOf (hd.t.size + F.wt + sWt hd.ns) 1048576 = (d : Int) ∧ d ≤ 1048576 := ⟨1048576 - (hd.t.size + F.wt + sWt hd.ns), by unfold leftOf; rw [if_pos hneed], by omega⟩
  rw [hd]
  clear hd
  have hd0 : ¬ (d : Int) < 0 := by omega
  have hs : F.wt ≤ 1048576 := by omega
  have hsn : hd.ns.length ≤ 1048576 := by omega
  go_wp2_with fail
  refine (szValue_any hd2 a2 c2 G _ d (HI.out _ hB1).1.2 hl2 hc2 (HI.out _ hB1).2.2 hdd).mono ?_
  rintro r w2 ⟨rfl, hb2⟩
  have hB2 := hB1.trans (hb2.mono hB1.size)
  clear x0 x1 x2 x3 x4 x5 y0 y1 y2 y3 y4 y5
  obtain ⟨⟨x0, x1, x2, x3, x4, x5⟩, y0, y1, y2, y3, y4, y5⟩ := HX.out _ hB2
  clear hb2 hB1 hneed
  by_cases hneed2 : hd2.t.size + G.wt + sWt hd2.ns ≤ d
  case neg =>
    have hd : leftOf (hd2.t.size + G.wt + sWt hd2.ns) d = -1 := by unfold leftOf; rw [if_neg hneed2]
    rw [hd]
    go_wp2_with fail
    go_ret
    exact ⟨rfl, HB.out _ hB2⟩
  obtain ⟨d2, hd⟩ : ∃ d2 : Nat, leftOf (hd2.t.size + G.wt + sWt hd2.ns) d = (d2 : Int) := ⟨d - (hd2.t.size + G.wt + sWt hd2.ns), by unfold leftOf; rw [if_pos hneed2]⟩
  rw [hd]
  clear hd
  have hd20 : ¬ (d2 : Int) < 0 := by omega
  have hs2 : G.wt ≤ 1048576 := by omega
  have hsn2 : hd2.ns.length ≤ 1048576 := by omega
  clear hneed2
  clear x0 x1 x2 x3 x4 x5 y0 y1 y2 y3 y4 y5
  go_wp2_with fail
  refine vc8 (HX.out _ hB2).1 (HX.out _ hB2).2 (HI.out _ hB2).1.1 (HI.out _ hB2).1.2 hl hc (HI.out _ hB2).2.1 hs hsn hl2 hc2 (HI.out _ hB2).2.2 hs2 hsn2 (fun _ d _ _ _ h => by cases d <;> exact h) ?_
  intro w3 v20 v21 v22 v23 v24 hb3
  have hB3 := hB2.trans (hb3.mono hB2.size)
  clear hb3 hB2
  obtain ⟨⟨x0, x1, x2, x3, x4, x5⟩, y0, y1, y2, y3, y4, y5⟩ := HX.out _ hB3
  go_wp2_with fail
  refine (toValue_any hd a c F _ hs hsn (HI.out _ hB3).1.1 hl hc (HI.out _ hB3).2.1).mono ?_
  rintro r w4 ⟨⟨nb, n2, F2, rfl, ha, hF2, hi2, hg⟩, hb4⟩
  have hB4a := hB3.trans (hb4.mono hB3.size)
  have hbx := (Below.refl w4.heap.size w4).alloc (Nat.le_refl _) (.cells #[.int .i64 (hd.to n2).k, .int .i64 (hd.to n2).m, .int .i64 (hd.to n2).e, .string (hd.to n2).t, .slice (some ⟨nb, 0, none⟩) F2.len F2.len, .slice (hd.to n2).na (hd.to n2).ns.length (hd.to n2).nc] 33)
  have hB4 := hB4a.trans (hbx.mono hB4a.size)
  have hXn := BxV.new w4 (hd.to n2) (.slice (some ⟨nb, 0, none⟩) F2.len F2.len) 33
  have hF4 := Vo.from_grow hbx F2 _ _ hF2
  have hg4 := hg.below hbx
  have hi4 := hi2.grow hbx
  clear x0 x1 x2 x3 x4 x5 y0 y1 y2 y3 y4 y5
  clear hi2 hF2 hg hb4 hB4a hB3 hbx
  obtain ⟨⟨x0, x1, x2, x3, x4, x5⟩, y0, y1, y2, y3, y4, y5⟩ := HX.out _ hB4
  go_wp2_with fail
  refine (toValue_any hd2 a2 c2 G _ hs2 hsn2 (HI.out _ hB4).1.2 hl2 hc2 (HI.out _ hB4).2.2).mono ?_
  rintro r w5 ⟨⟨nb2, n3, G2, rfl, ha2, hG2, hi3, hg2⟩, hb5⟩
  have hB5a := hB4.trans (hb5.mono hB4.size)
  have hby := (Below.refl w5.heap.size w5).alloc (Nat.le_refl _) (.cells #[.int .i64 (hd2.to n3).k, .int .i64 (hd2.to n3).m, .int .i64 (hd2.to n3).e, .string (hd2.to n3).t, .slice (some ⟨nb2, 0, none⟩) G2.len G2.len, .slice (hd2.to n3).na (hd2.to n3).ns.length (hd2.to n3).nc] 33)
  have hB5 := hB5a.trans (hby.mono hB5a.size)
  have hYn := BxV.new w5 (hd2.to n3) (.slice (some ⟨nb2, 0, none⟩) G2.len G2.len) 33
  have hz5 := hb5.trans (hby.mono hb5.size)
  have hX5 := hXn.below hz5
  have hF5 := Vo.from_grow hz5 F2 _ _ hF4
  have hg5 := hg4.below hz5
  have hG5 := Vo.from_grow hby G2 _ _ hG2
  have hgg5 := hg2.below hby
  have HG5 : Hid ((ItV.Good _ _ ∧ ItV.Good _ _) ∧ Hd.In _ _ ∧ Hd.In _ _) := ⟨⟨hg5, hgg5⟩, hi4.grow hz5, hi3.grow hby⟩
  clear x0 x1 x2 x3 x4 x5 y0 y1 y2 y3 y4 y5
  clear hF4 hg4 hXn hb5 hB5a hB4 hz5 hby hG2 hg2 hg5 hgg5 hi4 hi3
  have hs5 : F2.size ≤ 1048576 := by rw [Vo.alike_size ha]; exact Nat.le_trans F.size_wt hs
  go_wp2_with fail
  have hs5g : G2.size ≤ 1048576 := by rw [Vo.alike_size ha2]; exact Nat.le_trans G.size_wt hs2
  have hlm1 : F2.len ≤ maxLen := by rw [Vo.alike_len ha]; exact Nat.le_trans hl hc
  have hlm2 : G2.len ≤ maxLen := by rw [Vo.alike_len ha2]; exact Nat.le_trans hl2 hc2
  refine (iValueCmp_any (hd.to n2) (some ⟨nb, 0, none⟩) F2.len F2 (hd2.to n3) (some ⟨nb2, 0, none⟩) G2.len G2 _ hs5 hs5g (.inr ⟨nb, 0, rfl, hF5⟩) (Nat.le_refl _) hlm1 HG5.out.2.1 (.inr ⟨nb2, 0, rfl, hG5⟩) (Nat.le_refl _) hlm2 HG5.out.2.2).mono ?_
  rintro r w6 ⟨rfl, hb6⟩
  rw [vcmp_copy ha ha2]
  have HI6 : Hid (Hd.In w6 (hd.to n2) ∧ Hd.In w6 (hd2.to n3)) := ⟨HG5.out.2.1.grow hb6, HG5.out.2.2.grow hb6⟩
  clear HG5
  have hB6 := hB5.trans (hb6.mono hB5.size)
  have hX6 := hX5.below hb6
  have hY6 := hYn.below hb6
  have hF6 := Vo.from_grow hb6 F2 _ _ hF5
  have hG6 := Vo.from_grow hb6 G2 _ _ hG5
  clear hX5 hYn hF5 hG5 hb6 hB5
  go_wp2_with fail
  refine vc14 (HX.out _ hB6).1 hX6 (HI.out _ hB6).1.1 hF6 HI6.out.1 ha hl hc (HI.out _ hB6).2.1 hs hsn (fun _ d _ _ _ h => by cases d <;> exact h) ?_
  intro w7 v35 v36 v37 v38 hb7
  have HI7 : Hid (Hd.In w7 (hd2.to n3)) := HI6.out.2.grow hb7
  clear HI6
  have hB7 := hB6.trans (hb7.mono hB6.size)
  have hY7 := hY6.below hb7
  have hG7 := Vo.from_grow hb7 G2 _ _ hG6
  clear hX6 hY6 hF6 hG6 hb7 hB6
  go_wp2_with fail
  refine vc16 (HX.out _ hB7).2 hY7 (HI.out _ hB7).1.2 hG7 HI7.out ha2 hl2 hc2 (HI.out _ hB7).2.2 hs2 hsn2 (fun _ d _ _ _ h => by cases d <;> exact h) ?_
  intro w8 v40 v41 v42 v43 hb8
  have hB8 := hB7.trans (hb8.mono hB7.size)
  clear hY7 hG7 hb8 hB7
  go_wp2_with fail
  go_ret
  exact ⟨rfl, HB.out _ hB8⟩
end Go.Proofs.Ytofmimoklbkeoaa
