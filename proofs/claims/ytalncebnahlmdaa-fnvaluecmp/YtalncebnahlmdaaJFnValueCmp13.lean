/- My own texts, joined: Ux. -/
import Derived.Test.YtalncebnahlmdaaJFnValueCmp12
/- Drawn values: l14Near's regions that cut something out of a list. -/
namespace Go.Proofs.Ytalncebnahlmdaa
open Go.RowKit
set_option maxRecDepth 100000 in
set_option maxHeartbeats 2000000 in
theorem un12 {Q : Exit → Act → World → Prop} {t0 t1 t2 t3 t4 t7 t8 t9 t10 t11 t12 t13 t14 t15 t16 t17 t18 t19 t20 t21 t22 t23 t24 t25 t26 t27 t28 t29 t30 t31 t32 t33 t34 t35 t36 t37 t38 t39 t40 t41 t42 t43 t44 t45 t46 t47 t48 t49 t50 t51 t52 t53 t54 t55 t56 t57 t58 t59 t60 t61 t62 t63 t64 t65 t66 t67 t68 t69 t70 t71 t72 t73 t74 t75 t76 : Value} {W : World} {xb k n : Nat} {na : Option Addr} {nc : Nat} {L : List Value}
    (hv : W.cell? ⟨xb, 4, none⟩ = some (.slice na n nc)) (hf : W.frozen? ⟨xb, 4, none⟩ = false) (hL : Lies W na L) (hl : L.length = n * 6) (h1 : ∀ u ∈ L, u.oneCell' = true) (hn : n ≤ nc ∧ nc ≤ maxLen) (hk : k < n) (hN : n ≤ 1100000)
    (hp : ∀ p d v a w, Q (.panic p) (Act.put a d v) w → Q (.panic p) a w) (h : ∀ W1 v' v47 v48 v49 v50 v51 v52 v53 v54 v55 v56 v57 v59, Below W.heap.size W W1 → W1.ownsRow W.heap.size 28 6 v' (n - 1) (L.take (k * 6) ++ L.drop ((k + 1) * 6)) → Q .normal { tmps := (t0 :: t1 :: t2 :: t3 :: t4 :: .pointer (some ⟨xb, 0, none⟩) :: .int .i64 (k : Nat) :: t7 :: t8 :: t9 :: t10 :: t11 :: t12 :: t13 :: t14 :: t15 :: t16 :: t17 :: t18 :: t19 :: t20 :: t21 :: t22 :: t23 :: t24 :: t25 :: t26 :: t27 :: t28 :: t29 :: t30 :: t31 :: t32 :: t33 :: t34 :: t35 :: t36 :: t37 :: t38 :: t39 :: t40 :: t41 :: t42 :: t43 :: t44 :: t45 :: t46 :: v47 :: v48 :: v49 :: v50 :: v51 :: v52 :: v53 :: v54 :: v55 :: v56 :: v57 :: v' :: v59 :: t60 :: t61 :: t62 :: t63 :: t64 :: t65 :: t66 :: t67 :: t68 :: t69 :: t70 :: t71 :: t72 :: t73 :: t74 :: t75 :: t76 :: []).toArray, defers := [] } (W1.setCell ⟨xb, 4, none⟩ v')) :
    Code.wp Try.prog (Code.region 12 #[{ dst := some 47, op := Op.buildSlice 25 0 #[], type := 25, pos := "l14_draw.go:887", after := #[], guard := none }, { dst := some 48, op := Op.fieldAddr 28 (Operand.tmp 5) 3, type := 0, pos := "l14_draw.go:887", after := #[], guard := none }, { dst := some 49, op := Op.load 25 (Operand.tmp 48), type := 25, pos := "l14_draw.go:887", after := #[{ on := 1, ground := Ground.data }], guard := none }, { dst := some 50, op := Op.move (Operand.tmp 6), type := 3, pos := "l14_draw.go:887", after := #[], guard := none }, { dst := some 51, op := Op.slice 25 (Operand.tmp 49) none (some (Operand.tmp 50)) none, type := 25, pos := "l14_draw.go:887", after := #[{ on := 2, ground := Ground.data }, { on := 3, ground := Ground.data }], guard := none }, { dst := some 52, op := Op.call { callee := Callee.builtin Builtin.append, args := #[Operand.tmp 47, Operand.tmp 51], argTypes := #[25, 25] }, type := 25, pos := "l14_draw.go:887", after := #[{ on := 0, ground := Ground.data }, { on := 4, ground := Ground.data }], guard := none }, { dst := some 53, op := Op.fieldAddr 28 (Operand.tmp 5) 3, type := 0, pos := "l14_draw.go:887", after := #[], guard := none }, { dst := some 54, op := Op.load 25 (Operand.tmp 53), type := 25, pos := "l14_draw.go:887", after := #[{ on := 6, ground := Ground.data }], guard := none }, { dst := some 55, op := Op.move (Operand.tmp 6), type := 3, pos := "l14_draw.go:887", after := #[], guard := none }, { dst := some 56, op := Op.binOp BinOp.add 3 (Operand.tmp 55) (Operand.const (Value.int IntKind.i64 1)) 3, type := 3, pos := "l14_draw.go:887", after := #[{ on := 8, ground := Ground.data }], guard := none }, { dst := some 57, op := Op.slice 25 (Operand.tmp 54) (some (Operand.tmp 56)) none none, type := 25, pos := "l14_draw.go:887", after := #[{ on := 7, ground := Ground.data }, { on := 9, ground := Ground.data }], guard := none }, { dst := some 58, op := Op.call { callee := Callee.builtin Builtin.append, args := #[Operand.tmp 52, Operand.tmp 57], argTypes := #[25, 25] }, type := 25, pos := "l14_draw.go:887", after := #[{ on := 5, ground := Ground.data }, { on := 10, ground := Ground.data }, { on := 5, ground := Ground.chain }], guard := none }, { dst := some 59, op := Op.fieldAddr 28 (Operand.tmp 5) 3, type := 0, pos := "l14_draw.go:887", after := #[{ on := 0, ground := Ground.phase }, { on := 1, ground := Ground.phase }, { on := 2, ground := Ground.phase }, { on := 3, ground := Ground.phase }, { on := 4, ground := Ground.phase }, { on := 5, ground := Ground.phase }, { on := 6, ground := Ground.phase }, { on := 7, ground := Ground.phase }, { on := 8, ground := Ground.phase }, { on := 9, ground := Ground.phase }, { on := 10, ground := Ground.phase }, { on := 11, ground := Ground.phase }], guard := none }, { dst := none, op := Op.store 25 (Operand.tmp 59) (Operand.tmp 58), type := 0, pos := "l14_draw.go:887", after := #[{ on := 12, ground := Ground.data }, { on := 11, ground := Ground.data }, { on := 11, ground := Ground.chain }, { on := 0, ground := Ground.phase }, { on := 1, ground := Ground.phase }, { on := 2, ground := Ground.phase }, { on := 3, ground := Ground.phase }, { on := 4, ground := Ground.phase }, { on := 5, ground := Ground.phase }, { on := 6, ground := Ground.phase }, { on := 7, ground := Ground.phase }, { on := 8, ground := Ground.phase }, { on := 9, ground := Ground.phase }, { on := 10, ground := Ground.phase }, { on := 11, ground := Ground.phase }], guard := none }] true) Q { tmps := (t0 :: t1 :: t2 :: t3 :: t4 :: .pointer (some ⟨xb, 0, none⟩) :: .int .i64 (k : Nat) :: t7 :: t8 :: t9 :: t10 :: t11 :: t12 :: t13 :: t14 :: t15 :: t16 :: t17 :: t18 :: t19 :: t20 :: t21 :: t22 :: t23 :: t24 :: t25 :: t26 :: t27 :: t28 :: t29 :: t30 :: t31 :: t32 :: t33 :: t34 :: t35 :: t36 :: t37 :: t38 :: t39 :: t40 :: t41 :: t42 :: t43 :: t44 :: t45 :: t46 :: t47 :: t48 :: t49 :: t50 :: t51 :: t52 :: t53 :: t54 :: t55 :: t56 :: t57 :: t58 :: t59 :: t60 :: t61 :: t62 :: t63 :: t64 :: t65 :: t66 :: t67 :: t68 :: t69 :: t70 :: t71 :: t72 :: t73 :: t74 :: t75 :: t76 :: []).toArray, defers := [] } W := by
  obtain ⟨i0, hi, hz0, hz1, hz2⟩ := info_parts valInfo
  obtain ⟨hn1, hn2⟩ := hn
  unfold maxLen at hn2
  have hvl := World.block_lt_of_cell? W _ hv
  have HV : Hid (∀ w', Below W.heap.size W w' → (w'.cell? ⟨xb, 4, none⟩ = some (.slice na n nc) ∧ w'.frozen? ⟨xb, 4, none⟩ = false)) := fun w' h => ⟨(h.cell (p := ⟨xb, 4, none⟩) hvl).trans hv, (h.frozen (p := ⟨xb, 4, none⟩) hvl).trans hf⟩
  have HT : Hid (∀ w', Below W.heap.size W w' → Src w' na k (L.take (k * 6))) := fun w' h => Lies.take0 (hL.grow h) hl (by omega) k (by omega)
  have HD : Hid (∀ w', Below W.heap.size W w' → Src w' (if nc = k + 1 then na else na.map (fun x => x.add ((k + 1) * 6))) (n - (k + 1)) (L.drop ((k + 1) * 6))) := fun w' h => by have := Lies.drop (hL.grow h) hl (by omega) (k + 1) nc hn1; simpa using this
  have HL : Hid ((L.take (k * 6)).length = k * 6 ∧ (L.drop ((k + 1) * 6)).length = (n - (k + 1)) * 6) := ⟨by rw [List.length_take, hl]; exact Nat.min_eq_left (Nat.mul_le_mul_right _ (by omega)), by rw [List.length_drop, hl, Nat.sub_mul]⟩
  have H1 : Hid ((∀ u ∈ L.take (k * 6), u.oneCell' = true) ∧ (∀ u ∈ L.drop ((k + 1) * 6), u.oneCell' = true)) := ⟨fun u hu => h1 u (List.mem_of_mem_take hu), fun u hu => h1 u (List.mem_of_mem_drop hu)⟩
  clear hv hf hL hl h1
  have hB0 : Below W.heap.size W W.drew := (Below.refl _ W).drew
  refine wp_region_held_drew (S := fun _ => True) (by kernel_rfl) trivial (fun _ => ?_)
  generalize W.drew = Wd at *
  have hSw : (fun _ : World => True) Wd := trivial
  refine wpAnyH_take (i := 1) (v := .pointer (some ⟨xb, 4, none⟩)) rfl (by kernel_rfl) (by kernel_rfl) (by kernel_rfl) (fun _ _ _ h => hp _ _ _ _ _ h) (Or.inl ⟨by rfl, ?_⟩) (by assumption) ?_
  · intro w hSw
    (try dsimp only at hSw)
    go_simp
  (try simp only [Act.put, List.getElem_toArray, List.getElem_cons_zero, List.getElem_cons_succ, List.setIfInBounds_toArray, List.set_cons_zero, List.set_cons_succ])
  refine wpAnyH_take (i := 3) (v := .int .i64 (k : Nat)) rfl (by kernel_rfl) (by kernel_rfl) (by kernel_rfl) (fun _ _ _ h => hp _ _ _ _ _ h) (Or.inl ⟨by rfl, ?_⟩) (by assumption) ?_
  · intro w hSw
    (try dsimp only at hSw)
    go_simp
  (try simp only [Act.put, List.getElem_toArray, List.getElem_cons_zero, List.getElem_cons_succ, List.setIfInBounds_toArray, List.set_cons_zero, List.set_cons_succ])
  refine wpAnyH_take (i := 6) (v := .pointer (some ⟨xb, 4, none⟩)) rfl (by kernel_rfl) (by kernel_rfl) (by kernel_rfl) (fun _ _ _ h => hp _ _ _ _ _ h) (Or.inl ⟨by rfl, ?_⟩) (by assumption) ?_
  · intro w hSw
    (try dsimp only at hSw)
    go_simp
  (try simp only [Act.put, List.getElem_toArray, List.getElem_cons_zero, List.getElem_cons_succ, List.setIfInBounds_toArray, List.set_cons_zero, List.set_cons_succ])
  refine wpAnyH_take (i := 8) (v := .int .i64 (k : Nat)) rfl (by kernel_rfl) (by kernel_rfl) (by kernel_rfl) (fun _ _ _ h => hp _ _ _ _ _ h) (Or.inl ⟨by rfl, ?_⟩) (by assumption) ?_
  · intro w hSw
    (try dsimp only at hSw)
    go_simp
  (try simp only [Act.put, List.getElem_toArray, List.getElem_cons_zero, List.getElem_cons_succ, List.setIfInBounds_toArray, List.set_cons_zero, List.set_cons_succ])
  refine wpAnyH_take (i := 9) (v := .int .i64 ((k : Int) + 1)) rfl (by kernel_rfl) (by kernel_rfl) (by kernel_rfl) (fun _ _ _ h => hp _ _ _ _ _ h) (Or.inl ⟨by rfl, ?_⟩) (by assumption) ?_
  · intro w hSw
    (try dsimp only at hSw)
    (go_simp <;> (first | done | (rw [IntKind.wrap_i64] <;> omega)))
  (try simp only [Act.put, List.getElem_toArray, List.getElem_cons_zero, List.getElem_cons_succ, List.setIfInBounds_toArray, List.set_cons_zero, List.set_cons_succ])
  clear hSw
  refine wpAnyH_ready (rs := [0, 2, 7]) (by kernel_rfl) (by simp) ?_
  refine AllReadyH.cons rfl (fun K hK => ?_) (AllReadyH.cons rfl (fun K hK => ?_) (AllReadyH.cons rfl (fun K hK => ?_) AllReadyH.nil))
  · skip
    go_simp
    have hown := own_nothing Wd W.heap.size 6 28 hB0.size
    have hB1 := hB0.alloc hB0.size (.cells #[] 28)
    refine hK.out _ _ trivial (fun _ => ?_)
    clear hK K hB0
    have hB0 := hB1
    clear hB1
    obtain ⟨g0, hg0⟩ : ∃ g, Wd.heap.size = g := ⟨_, rfl⟩
    rw [hg0] at hown ⊢
    obtain ⟨vo, hvo⟩ : ∃ vo, vo = Value.slice (some ⟨g0, 0, none⟩) 0 0 := ⟨_, rfl⟩
    rw [← hvo] at hown ⊢
    clear hvo
    generalize Wd.alloc (.cells #[] 28) = W1 at *
    clear hg0
    refine wpAnyH_ready (rs := [2, 7]) (by kernel_rfl) (by simp) ?_
    refine AllReadyH.cons rfl (fun K hK => ?_) (AllReadyH.cons rfl (fun K hK => ?_) AllReadyH.nil)
    · skip
      obtain ⟨hcl, _⟩ := HV.out _ hB0
      go_simp
      refine hK.out _ _ trivial (fun _ => ?_)
      clear hK K hcl
      (try simp only [Act.put, List.getElem_toArray, List.getElem_cons_zero, List.getElem_cons_succ, List.setIfInBounds_toArray, List.set_cons_zero, List.set_cons_succ])
      have hSw : (fun _ : World => True) W1 := trivial
      refine wpAnyH_take (i := 4) (v := .slice na k nc) rfl (by kernel_rfl) (by kernel_rfl) (by kernel_rfl) (fun _ _ _ h => hp _ _ _ _ _ h) (Or.inl ⟨by rfl, ?_⟩) (by assumption) ?_
      · intro w hSw
        (try dsimp only at hSw)
        (go_simp <;> first | done | omega | (simp [sliced]; omega) | simp [sliced])
      (try simp only [Act.put, List.getElem_toArray, List.getElem_cons_zero, List.getElem_cons_succ, List.setIfInBounds_toArray, List.set_cons_zero, List.set_cons_succ])
      clear hSw
      refine wpAnyH_ready (rs := [5, 7]) (by kernel_rfl) (by simp) ?_
      refine AllReadyH.cons rfl (fun K hK => ?_) (AllReadyH.cons rfl (fun K hK => ?_) AllReadyH.nil)
      · skip
        refine wp_append_lie W1 _ _ 25 rfl W.heap.size 28 i0 _ 6 88 Try.underlying25 hi hz0 hz1 hz2 rfl (by decide) vo 0 [] rfl hown na k nc (L.take (k * 6)) rfl HL.out.1 (HT.out _ hB0) H1.out.1 (by unfold maxLen; omega) (by omega) hB0.size ?_
        intro vo2 W2 hown2 hgr _
        have hB1 := below_grown hB0 hown hgr hB0.size
        refine hK.out _ _ trivial (fun _ => ?_)
        clear hK K hB0 hown hgr
        have hB0 := hB1
        clear hB1
        have hown := hown2
        clear hown2
        (try simp only [Act.put, List.getElem_toArray, List.getElem_cons_zero, List.getElem_cons_succ, List.setIfInBounds_toArray, List.set_cons_zero, List.set_cons_succ])
        rw [List.nil_append, Nat.zero_add] at hown
        refine wpAnyH_ready (rs := [7]) (by kernel_rfl) (by simp) ?_
        refine AllReadyH.cons rfl (fun K hK => ?_) AllReadyH.nil
        obtain ⟨hcl, _⟩ := HV.out _ hB0
        go_simp
        refine hK.out _ _ trivial (fun _ => ?_)
        clear hK K hcl
        (try simp only [Act.put, List.getElem_toArray, List.getElem_cons_zero, List.getElem_cons_succ, List.setIfInBounds_toArray, List.set_cons_zero, List.set_cons_succ])
        have hSw : (fun _ : World => True) W2 := trivial
        have hk1 : (0 : Int) ≤ (k : Int) + 1 := by omega
        have hk2 : (k : Int) + 1 ≤ (n : Int) := by omega
        have hk3 : ((k : Int) + 1).toNat = k + 1 := by omega
        refine wpAnyH_take (i := 10) (v := .slice (if nc = k + 1 then na else na.map (fun x => x.add ((k + 1) * 6))) (n - (k + 1)) (nc - (k + 1))) rfl (by kernel_rfl) (by kernel_rfl) (by kernel_rfl) (fun _ _ _ h => hp _ _ _ _ _ h) (Or.inl ⟨by rfl, ?_⟩) (by assumption) ?_
        · intro w hSw
          (try dsimp only at hSw)
          (go_simp <;> first | done | omega | (simp [sliced, hk3]; done) | (simp [sliced, hk3]; omega))
        (try simp only [Act.put, List.getElem_toArray, List.getElem_cons_zero, List.getElem_cons_succ, List.setIfInBounds_toArray, List.set_cons_zero, List.set_cons_succ])
        clear hSw hk1 hk2 hk3
        refine wpAnyH_ready (rs := [11]) (by kernel_rfl) (by simp) ?_
        refine AllReadyH.cons rfl (fun K hK => ?_) AllReadyH.nil
        refine wp_append_lie W2 _ _ 25 rfl W.heap.size 28 i0 _ 6 88 Try.underlying25 hi hz0 hz1 hz2 rfl (by decide) vo2 k (L.take (k * 6)) rfl hown (if nc = k + 1 then na else na.map (fun x => x.add ((k + 1) * 6))) (n - (k + 1)) (nc - (k + 1)) (L.drop ((k + 1) * 6)) rfl HL.out.2 (HD.out _ hB0) H1.out.2 (by unfold maxLen; omega) (by omega) hB0.size ?_
        intro v' W3 hown2 hgr _
        have hB1 := below_grown hB0 hown hgr hB0.size
        refine hK.out _ _ trivial (fun _ => ?_)
        clear hK K hB0 hown hgr
        (try simp only [Act.put, List.getElem_toArray, List.getElem_cons_zero, List.getElem_cons_succ, List.setIfInBounds_toArray, List.set_cons_zero, List.set_cons_succ])
        have hSw : (fun _ : World => True) W3 := trivial
        refine wpAnyH_take (i := 12) (v := .pointer (some ⟨xb, 4, none⟩)) rfl (by kernel_rfl) (by kernel_rfl) (by kernel_rfl) (fun _ _ _ h => hp _ _ _ _ _ h) (Or.inl ⟨by rfl, ?_⟩) (by assumption) ?_
        · intro w hSw
          (try dsimp only at hSw)
          go_simp
        (try simp only [Act.put, List.getElem_toArray, List.getElem_cons_zero, List.getElem_cons_succ, List.setIfInBounds_toArray, List.set_cons_zero, List.set_cons_succ])
        obtain ⟨hvc, hvf⟩ := HV.out _ hB1
        rw [show k + (n - (k + 1)) = n - 1 by omega] at hown2
        obtain ⟨a9, c9, rfl, _, _, _⟩ := own_lies hown2
        refine wpAnyH_ready (rs := [13]) (by kernel_rfl) (by simp) ?_
        refine AllReadyH.cons rfl (fun K hK => ?_) AllReadyH.nil
        go_simp
        refine hK.out _ _ trivial (fun _ => ?_)
        refine wpAnyH_done (by kernel_rfl) ?_ _
        exact h _ _ _ _ _ _ _ _ _ _ _ _ _ _ hB1 hown2
      · skip
        obtain ⟨hcl, _⟩ := HV.out _ hB0
        go_simp
        refine hK.out _ _ trivial (fun _ => ?_)
        clear hK K hcl
        (try simp only [Act.put, List.getElem_toArray, List.getElem_cons_zero, List.getElem_cons_succ, List.setIfInBounds_toArray, List.set_cons_zero, List.set_cons_succ])
        have hSw : (fun _ : World => True) W1 := trivial
        have hk1 : (0 : Int) ≤ (k : Int) + 1 := by omega
        have hk2 : (k : Int) + 1 ≤ (n : Int) := by omega
        have hk3 : ((k : Int) + 1).toNat = k + 1 := by omega
        refine wpAnyH_take (i := 10) (v := .slice (if nc = k + 1 then na else na.map (fun x => x.add ((k + 1) * 6))) (n - (k + 1)) (nc - (k + 1))) rfl (by kernel_rfl) (by kernel_rfl) (by kernel_rfl) (fun _ _ _ h => hp _ _ _ _ _ h) (Or.inl ⟨by rfl, ?_⟩) (by assumption) ?_
        · intro w hSw
          (try dsimp only at hSw)
          (go_simp <;> first | done | omega | (simp [sliced, hk3]; done) | (simp [sliced, hk3]; omega))
        (try simp only [Act.put, List.getElem_toArray, List.getElem_cons_zero, List.getElem_cons_succ, List.setIfInBounds_toArray, List.set_cons_zero, List.set_cons_succ])
        clear hSw hk1 hk2 hk3
        refine wpAnyH_ready (rs := [5]) (by kernel_rfl) (by simp) ?_
        refine AllReadyH.cons rfl (fun K hK => ?_) AllReadyH.nil
        refine wp_append_lie W1 _ _ 25 rfl W.heap.size 28 i0 _ 6 88 Try.underlying25 hi hz0 hz1 hz2 rfl (by decide) vo 0 [] rfl hown na k nc (L.take (k * 6)) rfl HL.out.1 (HT.out _ hB0) H1.out.1 (by unfold maxLen; omega) (by omega) hB0.size ?_
        intro vo2 W4 hown2 hgr _
        have hB1 := below_grown hB0 hown hgr hB0.size
        refine hK.out _ _ trivial (fun _ => ?_)
        clear hK K hB0 hown hgr
        have hB0 := hB1
        clear hB1
        have hown := hown2
        clear hown2
        (try simp only [Act.put, List.getElem_toArray, List.getElem_cons_zero, List.getElem_cons_succ, List.setIfInBounds_toArray, List.set_cons_zero, List.set_cons_succ])
        rw [List.nil_append, Nat.zero_add] at hown
        refine wpAnyH_ready (rs := [11]) (by kernel_rfl) (by simp) ?_
        refine AllReadyH.cons rfl (fun K hK => ?_) AllReadyH.nil
        refine wp_append_lie W4 _ _ 25 rfl W.heap.size 28 i0 _ 6 88 Try.underlying25 hi hz0 hz1 hz2 rfl (by decide) vo2 k (L.take (k * 6)) rfl hown (if nc = k + 1 then na else na.map (fun x => x.add ((k + 1) * 6))) (n - (k + 1)) (nc - (k + 1)) (L.drop ((k + 1) * 6)) rfl HL.out.2 (HD.out _ hB0) H1.out.2 (by unfold maxLen; omega) (by omega) hB0.size ?_
        intro v' W5 hown2 hgr _
        have hB1 := below_grown hB0 hown hgr hB0.size
        refine hK.out _ _ trivial (fun _ => ?_)
        clear hK K hB0 hown hgr
        (try simp only [Act.put, List.getElem_toArray, List.getElem_cons_zero, List.getElem_cons_succ, List.setIfInBounds_toArray, List.set_cons_zero, List.set_cons_succ])
        have hSw : (fun _ : World => True) W5 := trivial
        refine wpAnyH_take (i := 12) (v := .pointer (some ⟨xb, 4, none⟩)) rfl (by kernel_rfl) (by kernel_rfl) (by kernel_rfl) (fun _ _ _ h => hp _ _ _ _ _ h) (Or.inl ⟨by rfl, ?_⟩) (by assumption) ?_
        · intro w hSw
          (try dsimp only at hSw)
          go_simp
        (try simp only [Act.put, List.getElem_toArray, List.getElem_cons_zero, List.getElem_cons_succ, List.setIfInBounds_toArray, List.set_cons_zero, List.set_cons_succ])
        obtain ⟨hvc, hvf⟩ := HV.out _ hB1
        rw [show k + (n - (k + 1)) = n - 1 by omega] at hown2
        obtain ⟨a9, c9, rfl, _, _, _⟩ := own_lies hown2
        refine wpAnyH_ready (rs := [13]) (by kernel_rfl) (by simp) ?_
        refine AllReadyH.cons rfl (fun K hK => ?_) AllReadyH.nil
        go_simp
        refine hK.out _ _ trivial (fun _ => ?_)
        refine wpAnyH_done (by kernel_rfl) ?_ _
        exact h _ _ _ _ _ _ _ _ _ _ _ _ _ _ hB1 hown2
    · skip
      obtain ⟨hcl, _⟩ := HV.out _ hB0
      go_simp
      refine hK.out _ _ trivial (fun _ => ?_)
      clear hK K hcl
      (try simp only [Act.put, List.getElem_toArray, List.getElem_cons_zero, List.getElem_cons_succ, List.setIfInBounds_toArray, List.set_cons_zero, List.set_cons_succ])
      have hSw : (fun _ : World => True) W1 := trivial
      have hk1 : (0 : Int) ≤ (k : Int) + 1 := by omega
      have hk2 : (k : Int) + 1 ≤ (n : Int) := by omega
      have hk3 : ((k : Int) + 1).toNat = k + 1 := by omega
      refine wpAnyH_take (i := 10) (v := .slice (if nc = k + 1 then na else na.map (fun x => x.add ((k + 1) * 6))) (n - (k + 1)) (nc - (k + 1))) rfl (by kernel_rfl) (by kernel_rfl) (by kernel_rfl) (fun _ _ _ h => hp _ _ _ _ _ h) (Or.inl ⟨by rfl, ?_⟩) (by assumption) ?_
      · intro w hSw
        (try dsimp only at hSw)
        (go_simp <;> first | done | omega | (simp [sliced, hk3]; done) | (simp [sliced, hk3]; omega))
      (try simp only [Act.put, List.getElem_toArray, List.getElem_cons_zero, List.getElem_cons_succ, List.setIfInBounds_toArray, List.set_cons_zero, List.set_cons_succ])
      clear hSw hk1 hk2 hk3
      refine wpAnyH_ready (rs := [2]) (by kernel_rfl) (by simp) ?_
      refine AllReadyH.cons rfl (fun K hK => ?_) AllReadyH.nil
      obtain ⟨hcl, _⟩ := HV.out _ hB0
      go_simp
      refine hK.out _ _ trivial (fun _ => ?_)
      clear hK K hcl
      (try simp only [Act.put, List.getElem_toArray, List.getElem_cons_zero, List.getElem_cons_succ, List.setIfInBounds_toArray, List.set_cons_zero, List.set_cons_succ])
      have hSw : (fun _ : World => True) W1 := trivial
      refine wpAnyH_take (i := 4) (v := .slice na k nc) rfl (by kernel_rfl) (by kernel_rfl) (by kernel_rfl) (fun _ _ _ h => hp _ _ _ _ _ h) (Or.inl ⟨by rfl, ?_⟩) (by assumption) ?_
      · intro w hSw
        (try dsimp only at hSw)
        (go_simp <;> first | done | omega | (simp [sliced]; omega) | simp [sliced])
      (try simp only [Act.put, List.getElem_toArray, List.getElem_cons_zero, List.getElem_cons_succ, List.setIfInBounds_toArray, List.set_cons_zero, List.set_cons_succ])
      clear hSw
      refine wpAnyH_ready (rs := [5]) (by kernel_rfl) (by simp) ?_
      refine AllReadyH.cons rfl (fun K hK => ?_) AllReadyH.nil
      refine wp_append_lie W1 _ _ 25 rfl W.heap.size 28 i0 _ 6 88 Try.underlying25 hi hz0 hz1 hz2 rfl (by decide) vo 0 [] rfl hown na k nc (L.take (k * 6)) rfl HL.out.1 (HT.out _ hB0) H1.out.1 (by unfold maxLen; omega) (by omega) hB0.size ?_
      intro vo2 W6 hown2 hgr _
      have hB1 := below_grown hB0 hown hgr hB0.size
      refine hK.out _ _ trivial (fun _ => ?_)
      clear hK K hB0 hown hgr
      have hB0 := hB1
      clear hB1
      have hown := hown2
      clear hown2
      (try simp only [Act.put, List.getElem_toArray, List.getElem_cons_zero, List.getElem_cons_succ, List.setIfInBounds_toArray, List.set_cons_zero, List.set_cons_succ])
      rw [List.nil_append, Nat.zero_add] at hown
      refine wpAnyH_ready (rs := [11]) (by kernel_rfl) (by simp) ?_
      refine AllReadyH.cons rfl (fun K hK => ?_) AllReadyH.nil
      refine wp_append_lie W6 _ _ 25 rfl W.heap.size 28 i0 _ 6 88 Try.underlying25 hi hz0 hz1 hz2 rfl (by decide) vo2 k (L.take (k * 6)) rfl hown (if nc = k + 1 then na else na.map (fun x => x.add ((k + 1) * 6))) (n - (k + 1)) (nc - (k + 1)) (L.drop ((k + 1) * 6)) rfl HL.out.2 (HD.out _ hB0) H1.out.2 (by unfold maxLen; omega) (by omega) hB0.size ?_
      intro v' W7 hown2 hgr _
      have hB1 := below_grown hB0 hown hgr hB0.size
      refine hK.out _ _ trivial (fun _ => ?_)
      clear hK K hB0 hown hgr
      (try simp only [Act.put, List.getElem_toArray, List.getElem_cons_zero, List.getElem_cons_succ, List.setIfInBounds_toArray, List.set_cons_zero, List.set_cons_succ])
      have hSw : (fun _ : World => True) W7 := trivial
      refine wpAnyH_take (i := 12) (v := .pointer (some ⟨xb, 4, none⟩)) rfl (by kernel_rfl) (by kernel_rfl) (by kernel_rfl) (fun _ _ _ h => hp _ _ _ _ _ h) (Or.inl ⟨by rfl, ?_⟩) (by assumption) ?_
      · intro w hSw
        (try dsimp only at hSw)
        go_simp
      (try simp only [Act.put, List.getElem_toArray, List.getElem_cons_zero, List.getElem_cons_succ, List.setIfInBounds_toArray, List.set_cons_zero, List.set_cons_succ])
      obtain ⟨hvc, hvf⟩ := HV.out _ hB1
      rw [show k + (n - (k + 1)) = n - 1 by omega] at hown2
      obtain ⟨a9, c9, rfl, _, _, _⟩ := own_lies hown2
      refine wpAnyH_ready (rs := [13]) (by kernel_rfl) (by simp) ?_
      refine AllReadyH.cons rfl (fun K hK => ?_) AllReadyH.nil
      go_simp
      refine hK.out _ _ trivial (fun _ => ?_)
      refine wpAnyH_done (by kernel_rfl) ?_ _
      exact h _ _ _ _ _ _ _ _ _ _ _ _ _ _ hB1 hown2
  · skip
    obtain ⟨hcl, _⟩ := HV.out _ hB0
    go_simp
    refine hK.out _ _ trivial (fun _ => ?_)
    clear hK K hcl
    (try simp only [Act.put, List.getElem_toArray, List.getElem_cons_zero, List.getElem_cons_succ, List.setIfInBounds_toArray, List.set_cons_zero, List.set_cons_succ])
    have hSw : (fun _ : World => True) Wd := trivial
    refine wpAnyH_take (i := 4) (v := .slice na k nc) rfl (by kernel_rfl) (by kernel_rfl) (by kernel_rfl) (fun _ _ _ h => hp _ _ _ _ _ h) (Or.inl ⟨by rfl, ?_⟩) (by assumption) ?_
    · intro w hSw
      (try dsimp only at hSw)
      (go_simp <;> first | done | omega | (simp [sliced]; omega) | simp [sliced])
    (try simp only [Act.put, List.getElem_toArray, List.getElem_cons_zero, List.getElem_cons_succ, List.setIfInBounds_toArray, List.set_cons_zero, List.set_cons_succ])
    clear hSw
    refine wpAnyH_ready (rs := [0, 7]) (by kernel_rfl) (by simp) ?_
    refine AllReadyH.cons rfl (fun K hK => ?_) (AllReadyH.cons rfl (fun K hK => ?_) AllReadyH.nil)
    · skip
      go_simp
      have hown := own_nothing Wd W.heap.size 6 28 hB0.size
      have hB1 := hB0.alloc hB0.size (.cells #[] 28)
      refine hK.out _ _ trivial (fun _ => ?_)
      clear hK K hB0
      have hB0 := hB1
      clear hB1
      obtain ⟨g0, hg0⟩ : ∃ g, Wd.heap.size = g := ⟨_, rfl⟩
      rw [hg0] at hown ⊢
      obtain ⟨vo, hvo⟩ : ∃ vo, vo = Value.slice (some ⟨g0, 0, none⟩) 0 0 := ⟨_, rfl⟩
      rw [← hvo] at hown ⊢
      clear hvo
      generalize Wd.alloc (.cells #[] 28) = W8 at *
      clear hg0
      refine wpAnyH_ready (rs := [5, 7]) (by kernel_rfl) (by simp) ?_
      refine AllReadyH.cons rfl (fun K hK => ?_) (AllReadyH.cons rfl (fun K hK => ?_) AllReadyH.nil)
      · skip
        refine wp_append_lie W8 _ _ 25 rfl W.heap.size 28 i0 _ 6 88 Try.underlying25 hi hz0 hz1 hz2 rfl (by decide) vo 0 [] rfl hown na k nc (L.take (k * 6)) rfl HL.out.1 (HT.out _ hB0) H1.out.1 (by unfold maxLen; omega) (by omega) hB0.size ?_
        intro vo2 W9 hown2 hgr _
        have hB1 := below_grown hB0 hown hgr hB0.size
        refine hK.out _ _ trivial (fun _ => ?_)
        clear hK K hB0 hown hgr
        have hB0 := hB1
        clear hB1
        have hown := hown2
        clear hown2
        (try simp only [Act.put, List.getElem_toArray, List.getElem_cons_zero, List.getElem_cons_succ, List.setIfInBounds_toArray, List.set_cons_zero, List.set_cons_succ])
        rw [List.nil_append, Nat.zero_add] at hown
        refine wpAnyH_ready (rs := [7]) (by kernel_rfl) (by simp) ?_
        refine AllReadyH.cons rfl (fun K hK => ?_) AllReadyH.nil
        obtain ⟨hcl, _⟩ := HV.out _ hB0
        go_simp
        refine hK.out _ _ trivial (fun _ => ?_)
        clear hK K hcl
        (try simp only [Act.put, List.getElem_toArray, List.getElem_cons_zero, List.getElem_cons_succ, List.setIfInBounds_toArray, List.set_cons_zero, List.set_cons_succ])
        have hSw : (fun _ : World => True) W9 := trivial
        have hk1 : (0 : Int) ≤ (k : Int) + 1 := by omega
        have hk2 : (k : Int) + 1 ≤ (n : Int) := by omega
        have hk3 : ((k : Int) + 1).toNat = k + 1 := by omega
        refine wpAnyH_take (i := 10) (v := .slice (if nc = k + 1 then na else na.map (fun x => x.add ((k + 1) * 6))) (n - (k + 1)) (nc - (k + 1))) rfl (by kernel_rfl) (by kernel_rfl) (by kernel_rfl) (fun _ _ _ h => hp _ _ _ _ _ h) (Or.inl ⟨by rfl, ?_⟩) (by assumption) ?_
        · intro w hSw
          (try dsimp only at hSw)
          (go_simp <;> first | done | omega | (simp [sliced, hk3]; done) | (simp [sliced, hk3]; omega))
        (try simp only [Act.put, List.getElem_toArray, List.getElem_cons_zero, List.getElem_cons_succ, List.setIfInBounds_toArray, List.set_cons_zero, List.set_cons_succ])
        clear hSw hk1 hk2 hk3
        refine wpAnyH_ready (rs := [11]) (by kernel_rfl) (by simp) ?_
        refine AllReadyH.cons rfl (fun K hK => ?_) AllReadyH.nil
        refine wp_append_lie W9 _ _ 25 rfl W.heap.size 28 i0 _ 6 88 Try.underlying25 hi hz0 hz1 hz2 rfl (by decide) vo2 k (L.take (k * 6)) rfl hown (if nc = k + 1 then na else na.map (fun x => x.add ((k + 1) * 6))) (n - (k + 1)) (nc - (k + 1)) (L.drop ((k + 1) * 6)) rfl HL.out.2 (HD.out _ hB0) H1.out.2 (by unfold maxLen; omega) (by omega) hB0.size ?_
        intro v' W10 hown2 hgr _
        have hB1 := below_grown hB0 hown hgr hB0.size
        refine hK.out _ _ trivial (fun _ => ?_)
        clear hK K hB0 hown hgr
        (try simp only [Act.put, List.getElem_toArray, List.getElem_cons_zero, List.getElem_cons_succ, List.setIfInBounds_toArray, List.set_cons_zero, List.set_cons_succ])
        have hSw : (fun _ : World => True) W10 := trivial
        refine wpAnyH_take (i := 12) (v := .pointer (some ⟨xb, 4, none⟩)) rfl (by kernel_rfl) (by kernel_rfl) (by kernel_rfl) (fun _ _ _ h => hp _ _ _ _ _ h) (Or.inl ⟨by rfl, ?_⟩) (by assumption) ?_
        · intro w hSw
          (try dsimp only at hSw)
          go_simp
        (try simp only [Act.put, List.getElem_toArray, List.getElem_cons_zero, List.getElem_cons_succ, List.setIfInBounds_toArray, List.set_cons_zero, List.set_cons_succ])
        obtain ⟨hvc, hvf⟩ := HV.out _ hB1
        rw [show k + (n - (k + 1)) = n - 1 by omega] at hown2
        obtain ⟨a9, c9, rfl, _, _, _⟩ := own_lies hown2
        refine wpAnyH_ready (rs := [13]) (by kernel_rfl) (by simp) ?_
        refine AllReadyH.cons rfl (fun K hK => ?_) AllReadyH.nil
        go_simp
        refine hK.out _ _ trivial (fun _ => ?_)
        refine wpAnyH_done (by kernel_rfl) ?_ _
        exact h _ _ _ _ _ _ _ _ _ _ _ _ _ _ hB1 hown2
      · skip
        obtain ⟨hcl, _⟩ := HV.out _ hB0
        go_simp
        refine hK.out _ _ trivial (fun _ => ?_)
        clear hK K hcl
        (try simp only [Act.put, List.getElem_toArray, List.getElem_cons_zero, List.getElem_cons_succ, List.setIfInBounds_toArray, List.set_cons_zero, List.set_cons_succ])
        have hSw : (fun _ : World => True) W8 := trivial
        have hk1 : (0 : Int) ≤ (k : Int) + 1 := by omega
        have hk2 : (k : Int) + 1 ≤ (n : Int) := by omega
        have hk3 : ((k : Int) + 1).toNat = k + 1 := by omega
        refine wpAnyH_take (i := 10) (v := .slice (if nc = k + 1 then na else na.map (fun x => x.add ((k + 1) * 6))) (n - (k + 1)) (nc - (k + 1))) rfl (by kernel_rfl) (by kernel_rfl) (by kernel_rfl) (fun _ _ _ h => hp _ _ _ _ _ h) (Or.inl ⟨by rfl, ?_⟩) (by assumption) ?_
        · intro w hSw
          (try dsimp only at hSw)
          (go_simp <;> first | done | omega | (simp [sliced, hk3]; done) | (simp [sliced, hk3]; omega))
        (try simp only [Act.put, List.getElem_toArray, List.getElem_cons_zero, List.getElem_cons_succ, List.setIfInBounds_toArray, List.set_cons_zero, List.set_cons_succ])
        clear hSw hk1 hk2 hk3
        refine wpAnyH_ready (rs := [5]) (by kernel_rfl) (by simp) ?_
        refine AllReadyH.cons rfl (fun K hK => ?_) AllReadyH.nil
        refine wp_append_lie W8 _ _ 25 rfl W.heap.size 28 i0 _ 6 88 Try.underlying25 hi hz0 hz1 hz2 rfl (by decide) vo 0 [] rfl hown na k nc (L.take (k * 6)) rfl HL.out.1 (HT.out _ hB0) H1.out.1 (by unfold maxLen; omega) (by omega) hB0.size ?_
        intro vo2 W11 hown2 hgr _
        have hB1 := below_grown hB0 hown hgr hB0.size
        refine hK.out _ _ trivial (fun _ => ?_)
        clear hK K hB0 hown hgr
        have hB0 := hB1
        clear hB1
        have hown := hown2
        clear hown2
        (try simp only [Act.put, List.getElem_toArray, List.getElem_cons_zero, List.getElem_cons_succ, List.setIfInBounds_toArray, List.set_cons_zero, List.set_cons_succ])
        rw [List.nil_append, Nat.zero_add] at hown
        refine wpAnyH_ready (rs := [11]) (by kernel_rfl) (by simp) ?_
        refine AllReadyH.cons rfl (fun K hK => ?_) AllReadyH.nil
        refine wp_append_lie W11 _ _ 25 rfl W.heap.size 28 i0 _ 6 88 Try.underlying25 hi hz0 hz1 hz2 rfl (by decide) vo2 k (L.take (k * 6)) rfl hown (if nc = k + 1 then na else na.map (fun x => x.add ((k + 1) * 6))) (n - (k + 1)) (nc - (k + 1)) (L.drop ((k + 1) * 6)) rfl HL.out.2 (HD.out _ hB0) H1.out.2 (by unfold maxLen; omega) (by omega) hB0.size ?_
        intro v' W12 hown2 hgr _
        have hB1 := below_grown hB0 hown hgr hB0.size
        refine hK.out _ _ trivial (fun _ => ?_)
        clear hK K hB0 hown hgr
        (try simp only [Act.put, List.getElem_toArray, List.getElem_cons_zero, List.getElem_cons_succ, List.setIfInBounds_toArray, List.set_cons_zero, List.set_cons_succ])
        have hSw : (fun _ : World => True) W12 := trivial
        refine wpAnyH_take (i := 12) (v := .pointer (some ⟨xb, 4, none⟩)) rfl (by kernel_rfl) (by kernel_rfl) (by kernel_rfl) (fun _ _ _ h => hp _ _ _ _ _ h) (Or.inl ⟨by rfl, ?_⟩) (by assumption) ?_
        · intro w hSw
          (try dsimp only at hSw)
          go_simp
        (try simp only [Act.put, List.getElem_toArray, List.getElem_cons_zero, List.getElem_cons_succ, List.setIfInBounds_toArray, List.set_cons_zero, List.set_cons_succ])
        obtain ⟨hvc, hvf⟩ := HV.out _ hB1
        rw [show k + (n - (k + 1)) = n - 1 by omega] at hown2
        obtain ⟨a9, c9, rfl, _, _, _⟩ := own_lies hown2
        refine wpAnyH_ready (rs := [13]) (by kernel_rfl) (by simp) ?_
        refine AllReadyH.cons rfl (fun K hK => ?_) AllReadyH.nil
        go_simp
        refine hK.out _ _ trivial (fun _ => ?_)
        refine wpAnyH_done (by kernel_rfl) ?_ _
        exact h _ _ _ _ _ _ _ _ _ _ _ _ _ _ hB1 hown2
    · skip
      obtain ⟨hcl, _⟩ := HV.out _ hB0
      go_simp
      refine hK.out _ _ trivial (fun _ => ?_)
      clear hK K hcl
      (try simp only [Act.put, List.getElem_toArray, List.getElem_cons_zero, List.getElem_cons_succ, List.setIfInBounds_toArray, List.set_cons_zero, List.set_cons_succ])
      have hSw : (fun _ : World => True) Wd := trivial
      have hk1 : (0 : Int) ≤ (k : Int) + 1 := by omega
      have hk2 : (k : Int) + 1 ≤ (n : Int) := by omega
      have hk3 : ((k : Int) + 1).toNat = k + 1 := by omega
      refine wpAnyH_take (i := 10) (v := .slice (if nc = k + 1 then na else na.map (fun x => x.add ((k + 1) * 6))) (n - (k + 1)) (nc - (k + 1))) rfl (by kernel_rfl) (by kernel_rfl) (by kernel_rfl) (fun _ _ _ h => hp _ _ _ _ _ h) (Or.inl ⟨by rfl, ?_⟩) (by assumption) ?_
      · intro w hSw
        (try dsimp only at hSw)
        (go_simp <;> first | done | omega | (simp [sliced, hk3]; done) | (simp [sliced, hk3]; omega))
      (try simp only [Act.put, List.getElem_toArray, List.getElem_cons_zero, List.getElem_cons_succ, List.setIfInBounds_toArray, List.set_cons_zero, List.set_cons_succ])
      clear hSw hk1 hk2 hk3
      refine wpAnyH_ready (rs := [0]) (by kernel_rfl) (by simp) ?_
      refine AllReadyH.cons rfl (fun K hK => ?_) AllReadyH.nil
      go_simp
      have hown := own_nothing Wd W.heap.size 6 28 hB0.size
      have hB1 := hB0.alloc hB0.size (.cells #[] 28)
      refine hK.out _ _ trivial (fun _ => ?_)
      clear hK K hB0
      have hB0 := hB1
      clear hB1
      obtain ⟨g0, hg0⟩ : ∃ g, Wd.heap.size = g := ⟨_, rfl⟩
      rw [hg0] at hown ⊢
      obtain ⟨vo, hvo⟩ : ∃ vo, vo = Value.slice (some ⟨g0, 0, none⟩) 0 0 := ⟨_, rfl⟩
      rw [← hvo] at hown ⊢
      clear hvo
      generalize Wd.alloc (.cells #[] 28) = W13 at *
      clear hg0
      refine wpAnyH_ready (rs := [5]) (by kernel_rfl) (by simp) ?_
      refine AllReadyH.cons rfl (fun K hK => ?_) AllReadyH.nil
      refine wp_append_lie W13 _ _ 25 rfl W.heap.size 28 i0 _ 6 88 Try.underlying25 hi hz0 hz1 hz2 rfl (by decide) vo 0 [] rfl hown na k nc (L.take (k * 6)) rfl HL.out.1 (HT.out _ hB0) H1.out.1 (by unfold maxLen; omega) (by omega) hB0.size ?_
      intro vo2 W14 hown2 hgr _
      have hB1 := below_grown hB0 hown hgr hB0.size
      refine hK.out _ _ trivial (fun _ => ?_)
      clear hK K hB0 hown hgr
      have hB0 := hB1
      clear hB1
      have hown := hown2
      clear hown2
      (try simp only [Act.put, List.getElem_toArray, List.getElem_cons_zero, List.getElem_cons_succ, List.setIfInBounds_toArray, List.set_cons_zero, List.set_cons_succ])
      rw [List.nil_append, Nat.zero_add] at hown
      refine wpAnyH_ready (rs := [11]) (by kernel_rfl) (by simp) ?_
      refine AllReadyH.cons rfl (fun K hK => ?_) AllReadyH.nil
      refine wp_append_lie W14 _ _ 25 rfl W.heap.size 28 i0 _ 6 88 Try.underlying25 hi hz0 hz1 hz2 rfl (by decide) vo2 k (L.take (k * 6)) rfl hown (if nc = k + 1 then na else na.map (fun x => x.add ((k + 1) * 6))) (n - (k + 1)) (nc - (k + 1)) (L.drop ((k + 1) * 6)) rfl HL.out.2 (HD.out _ hB0) H1.out.2 (by unfold maxLen; omega) (by omega) hB0.size ?_
      intro v' W15 hown2 hgr _
      have hB1 := below_grown hB0 hown hgr hB0.size
      refine hK.out _ _ trivial (fun _ => ?_)
      clear hK K hB0 hown hgr
      (try simp only [Act.put, List.getElem_toArray, List.getElem_cons_zero, List.getElem_cons_succ, List.setIfInBounds_toArray, List.set_cons_zero, List.set_cons_succ])
      have hSw : (fun _ : World => True) W15 := trivial
      refine wpAnyH_take (i := 12) (v := .pointer (some ⟨xb, 4, none⟩)) rfl (by kernel_rfl) (by kernel_rfl) (by kernel_rfl) (fun _ _ _ h => hp _ _ _ _ _ h) (Or.inl ⟨by rfl, ?_⟩) (by assumption) ?_
      · intro w hSw
        (try dsimp only at hSw)
        go_simp
      (try simp only [Act.put, List.getElem_toArray, List.getElem_cons_zero, List.getElem_cons_succ, List.setIfInBounds_toArray, List.set_cons_zero, List.set_cons_succ])
      obtain ⟨hvc, hvf⟩ := HV.out _ hB1
      rw [show k + (n - (k + 1)) = n - 1 by omega] at hown2
      obtain ⟨a9, c9, rfl, _, _, _⟩ := own_lies hown2
      refine wpAnyH_ready (rs := [13]) (by kernel_rfl) (by simp) ?_
      refine AllReadyH.cons rfl (fun K hK => ?_) AllReadyH.nil
      go_simp
      refine hK.out _ _ trivial (fun _ => ?_)
      refine wpAnyH_done (by kernel_rfl) ?_ _
      exact h _ _ _ _ _ _ _ _ _ _ _ _ _ _ hB1 hown2
  · skip
    obtain ⟨hcl, _⟩ := HV.out _ hB0
    go_simp
    refine hK.out _ _ trivial (fun _ => ?_)
    clear hK K hcl
    (try simp only [Act.put, List.getElem_toArray, List.getElem_cons_zero, List.getElem_cons_succ, List.setIfInBounds_toArray, List.set_cons_zero, List.set_cons_succ])
    have hSw : (fun _ : World => True) Wd := trivial
    have hk1 : (0 : Int) ≤ (k : Int) + 1 := by omega
    have hk2 : (k : Int) + 1 ≤ (n : Int) := by omega
    have hk3 : ((k : Int) + 1).toNat = k + 1 := by omega
    refine wpAnyH_take (i := 10) (v := .slice (if nc = k + 1 then na else na.map (fun x => x.add ((k + 1) * 6))) (n - (k + 1)) (nc - (k + 1))) rfl (by kernel_rfl) (by kernel_rfl) (by kernel_rfl) (fun _ _ _ h => hp _ _ _ _ _ h) (Or.inl ⟨by rfl, ?_⟩) (by assumption) ?_
    · intro w hSw
      (try dsimp only at hSw)
      (go_simp <;> first | done | omega | (simp [sliced, hk3]; done) | (simp [sliced, hk3]; omega))
    (try simp only [Act.put, List.getElem_toArray, List.getElem_cons_zero, List.getElem_cons_succ, List.setIfInBounds_toArray, List.set_cons_zero, List.set_cons_succ])
    clear hSw hk1 hk2 hk3
    refine wpAnyH_ready (rs := [0, 2]) (by kernel_rfl) (by simp) ?_
    refine AllReadyH.cons rfl (fun K hK => ?_) (AllReadyH.cons rfl (fun K hK => ?_) AllReadyH.nil)
    · skip
      go_simp
      have hown := own_nothing Wd W.heap.size 6 28 hB0.size
      have hB1 := hB0.alloc hB0.size (.cells #[] 28)
      refine hK.out _ _ trivial (fun _ => ?_)
      clear hK K hB0
      have hB0 := hB1
      clear hB1
      obtain ⟨g0, hg0⟩ : ∃ g, Wd.heap.size = g := ⟨_, rfl⟩
      rw [hg0] at hown ⊢
      obtain ⟨vo, hvo⟩ : ∃ vo, vo = Value.slice (some ⟨g0, 0, none⟩) 0 0 := ⟨_, rfl⟩
      rw [← hvo] at hown ⊢
      clear hvo
      generalize Wd.alloc (.cells #[] 28) = W16 at *
      clear hg0
      refine wpAnyH_ready (rs := [2]) (by kernel_rfl) (by simp) ?_
      refine AllReadyH.cons rfl (fun K hK => ?_) AllReadyH.nil
      obtain ⟨hcl, _⟩ := HV.out _ hB0
      go_simp
      refine hK.out _ _ trivial (fun _ => ?_)
      clear hK K hcl
      (try simp only [Act.put, List.getElem_toArray, List.getElem_cons_zero, List.getElem_cons_succ, List.setIfInBounds_toArray, List.set_cons_zero, List.set_cons_succ])
      have hSw : (fun _ : World => True) W16 := trivial
      refine wpAnyH_take (i := 4) (v := .slice na k nc) rfl (by kernel_rfl) (by kernel_rfl) (by kernel_rfl) (fun _ _ _ h => hp _ _ _ _ _ h) (Or.inl ⟨by rfl, ?_⟩) (by assumption) ?_
      · intro w hSw
        (try dsimp only at hSw)
        (go_simp <;> first | done | omega | (simp [sliced]; omega) | simp [sliced])
      (try simp only [Act.put, List.getElem_toArray, List.getElem_cons_zero, List.getElem_cons_succ, List.setIfInBounds_toArray, List.set_cons_zero, List.set_cons_succ])
      clear hSw
      refine wpAnyH_ready (rs := [5]) (by kernel_rfl) (by simp) ?_
      refine AllReadyH.cons rfl (fun K hK => ?_) AllReadyH.nil
      refine wp_append_lie W16 _ _ 25 rfl W.heap.size 28 i0 _ 6 88 Try.underlying25 hi hz0 hz1 hz2 rfl (by decide) vo 0 [] rfl hown na k nc (L.take (k * 6)) rfl HL.out.1 (HT.out _ hB0) H1.out.1 (by unfold maxLen; omega) (by omega) hB0.size ?_
      intro vo2 W17 hown2 hgr _
      have hB1 := below_grown hB0 hown hgr hB0.size
      refine hK.out _ _ trivial (fun _ => ?_)
      clear hK K hB0 hown hgr
      have hB0 := hB1
      clear hB1
      have hown := hown2
      clear hown2
      (try simp only [Act.put, List.getElem_toArray, List.getElem_cons_zero, List.getElem_cons_succ, List.setIfInBounds_toArray, List.set_cons_zero, List.set_cons_succ])
      rw [List.nil_append, Nat.zero_add] at hown
      refine wpAnyH_ready (rs := [11]) (by kernel_rfl) (by simp) ?_
      refine AllReadyH.cons rfl (fun K hK => ?_) AllReadyH.nil
      refine wp_append_lie W17 _ _ 25 rfl W.heap.size 28 i0 _ 6 88 Try.underlying25 hi hz0 hz1 hz2 rfl (by decide) vo2 k (L.take (k * 6)) rfl hown (if nc = k + 1 then na else na.map (fun x => x.add ((k + 1) * 6))) (n - (k + 1)) (nc - (k + 1)) (L.drop ((k + 1) * 6)) rfl HL.out.2 (HD.out _ hB0) H1.out.2 (by unfold maxLen; omega) (by omega) hB0.size ?_
      intro v' W18 hown2 hgr _
      have hB1 := below_grown hB0 hown hgr hB0.size
      refine hK.out _ _ trivial (fun _ => ?_)
      clear hK K hB0 hown hgr
      (try simp only [Act.put, List.getElem_toArray, List.getElem_cons_zero, List.getElem_cons_succ, List.setIfInBounds_toArray, List.set_cons_zero, List.set_cons_succ])
      have hSw : (fun _ : World => True) W18 := trivial
      refine wpAnyH_take (i := 12) (v := .pointer (some ⟨xb, 4, none⟩)) rfl (by kernel_rfl) (by kernel_rfl) (by kernel_rfl) (fun _ _ _ h => hp _ _ _ _ _ h) (Or.inl ⟨by rfl, ?_⟩) (by assumption) ?_
      · intro w hSw
        (try dsimp only at hSw)
        go_simp
      (try simp only [Act.put, List.getElem_toArray, List.getElem_cons_zero, List.getElem_cons_succ, List.setIfInBounds_toArray, List.set_cons_zero, List.set_cons_succ])
      obtain ⟨hvc, hvf⟩ := HV.out _ hB1
      rw [show k + (n - (k + 1)) = n - 1 by omega] at hown2
      obtain ⟨a9, c9, rfl, _, _, _⟩ := own_lies hown2
      refine wpAnyH_ready (rs := [13]) (by kernel_rfl) (by simp) ?_
      refine AllReadyH.cons rfl (fun K hK => ?_) AllReadyH.nil
      go_simp
      refine hK.out _ _ trivial (fun _ => ?_)
      refine wpAnyH_done (by kernel_rfl) ?_ _
      exact h _ _ _ _ _ _ _ _ _ _ _ _ _ _ hB1 hown2
    · skip
      obtain ⟨hcl, _⟩ := HV.out _ hB0
      go_simp
      refine hK.out _ _ trivial (fun _ => ?_)
      clear hK K hcl
      (try simp only [Act.put, List.getElem_toArray, List.getElem_cons_zero, List.getElem_cons_succ, List.setIfInBounds_toArray, List.set_cons_zero, List.set_cons_succ])
      have hSw : (fun _ : World => True) Wd := trivial
      refine wpAnyH_take (i := 4) (v := .slice na k nc) rfl (by kernel_rfl) (by kernel_rfl) (by kernel_rfl) (fun _ _ _ h => hp _ _ _ _ _ h) (Or.inl ⟨by rfl, ?_⟩) (by assumption) ?_
      · intro w hSw
        (try dsimp only at hSw)
        (go_simp <;> first | done | omega | (simp [sliced]; omega) | simp [sliced])
      (try simp only [Act.put, List.getElem_toArray, List.getElem_cons_zero, List.getElem_cons_succ, List.setIfInBounds_toArray, List.set_cons_zero, List.set_cons_succ])
      clear hSw
      refine wpAnyH_ready (rs := [0]) (by kernel_rfl) (by simp) ?_
      refine AllReadyH.cons rfl (fun K hK => ?_) AllReadyH.nil
      go_simp
      have hown := own_nothing Wd W.heap.size 6 28 hB0.size
      have hB1 := hB0.alloc hB0.size (.cells #[] 28)
      refine hK.out _ _ trivial (fun _ => ?_)
      clear hK K hB0
      have hB0 := hB1
      clear hB1
      obtain ⟨g0, hg0⟩ : ∃ g, Wd.heap.size = g := ⟨_, rfl⟩
      rw [hg0] at hown ⊢
      obtain ⟨vo, hvo⟩ : ∃ vo, vo = Value.slice (some ⟨g0, 0, none⟩) 0 0 := ⟨_, rfl⟩
      rw [← hvo] at hown ⊢
      clear hvo
      generalize Wd.alloc (.cells #[] 28) = W19 at *
      clear hg0
      refine wpAnyH_ready (rs := [5]) (by kernel_rfl) (by simp) ?_
      refine AllReadyH.cons rfl (fun K hK => ?_) AllReadyH.nil
      refine wp_append_lie W19 _ _ 25 rfl W.heap.size 28 i0 _ 6 88 Try.underlying25 hi hz0 hz1 hz2 rfl (by decide) vo 0 [] rfl hown na k nc (L.take (k * 6)) rfl HL.out.1 (HT.out _ hB0) H1.out.1 (by unfold maxLen; omega) (by omega) hB0.size ?_
      intro vo2 W20 hown2 hgr _
      have hB1 := below_grown hB0 hown hgr hB0.size
      refine hK.out _ _ trivial (fun _ => ?_)
      clear hK K hB0 hown hgr
      have hB0 := hB1
      clear hB1
      have hown := hown2
      clear hown2
      (try simp only [Act.put, List.getElem_toArray, List.getElem_cons_zero, List.getElem_cons_succ, List.setIfInBounds_toArray, List.set_cons_zero, List.set_cons_succ])
      rw [List.nil_append, Nat.zero_add] at hown
      refine wpAnyH_ready (rs := [11]) (by kernel_rfl) (by simp) ?_
      refine AllReadyH.cons rfl (fun K hK => ?_) AllReadyH.nil
      refine wp_append_lie W20 _ _ 25 rfl W.heap.size 28 i0 _ 6 88 Try.underlying25 hi hz0 hz1 hz2 rfl (by decide) vo2 k (L.take (k * 6)) rfl hown (if nc = k + 1 then na else na.map (fun x => x.add ((k + 1) * 6))) (n - (k + 1)) (nc - (k + 1)) (L.drop ((k + 1) * 6)) rfl HL.out.2 (HD.out _ hB0) H1.out.2 (by unfold maxLen; omega) (by omega) hB0.size ?_
      intro v' W21 hown2 hgr _
      have hB1 := below_grown hB0 hown hgr hB0.size
      refine hK.out _ _ trivial (fun _ => ?_)
      clear hK K hB0 hown hgr
      (try simp only [Act.put, List.getElem_toArray, List.getElem_cons_zero, List.getElem_cons_succ, List.setIfInBounds_toArray, List.set_cons_zero, List.set_cons_succ])
      have hSw : (fun _ : World => True) W21 := trivial
      refine wpAnyH_take (i := 12) (v := .pointer (some ⟨xb, 4, none⟩)) rfl (by kernel_rfl) (by kernel_rfl) (by kernel_rfl) (fun _ _ _ h => hp _ _ _ _ _ h) (Or.inl ⟨by rfl, ?_⟩) (by assumption) ?_
      · intro w hSw
        (try dsimp only at hSw)
        go_simp
      (try simp only [Act.put, List.getElem_toArray, List.getElem_cons_zero, List.getElem_cons_succ, List.setIfInBounds_toArray, List.set_cons_zero, List.set_cons_succ])
      obtain ⟨hvc, hvf⟩ := HV.out _ hB1
      rw [show k + (n - (k + 1)) = n - 1 by omega] at hown2
      obtain ⟨a9, c9, rfl, _, _, _⟩ := own_lies hown2
      refine wpAnyH_ready (rs := [13]) (by kernel_rfl) (by simp) ?_
      refine AllReadyH.cons rfl (fun K hK => ?_) AllReadyH.nil
      go_simp
      refine hK.out _ _ trivial (fun _ => ?_)
      refine wpAnyH_done (by kernel_rfl) ?_ _
      exact h _ _ _ _ _ _ _ _ _ _ _ _ _ _ hB1 hown2
set_option maxRecDepth 100000 in
set_option maxHeartbeats 2000000 in
theorem un14 {Q : Exit → Act → World → Prop} {t0 t1 t2 t3 t4 t7 t8 t9 t10 t11 t12 t13 t14 t15 t16 t17 t18 t19 t20 t21 t22 t23 t24 t25 t26 t27 t28 t29 t30 t31 t32 t33 t34 t35 t36 t37 t38 t39 t40 t41 t42 t43 t44 t45 t46 t47 t48 t49 t50 t51 t52 t53 t54 t55 t56 t57 t58 t59 t60 t61 t62 t63 t64 t65 t66 t67 t68 t69 t70 t71 t72 t73 t74 t75 t76 : Value} {W : World} {xb k n : Nat} {na : Option Addr} {nc : Nat} {L : List Value}
    (hv : W.cell? ⟨xb, 5, none⟩ = some (.slice na n nc)) (hf : W.frozen? ⟨xb, 5, none⟩ = false) (hL : Lies W na L) (hl : L.length = n * 1) (h1 : ∀ u ∈ L, u.oneCell' = true) (hn : n ≤ nc ∧ nc ≤ maxLen) (hk : k < n) (hN : n ≤ 1100000)
    (hp : ∀ p d v a w, Q (.panic p) (Act.put a d v) w → Q (.panic p) a w) (h : ∀ W1 v' v63 v64 v65 v66 v67 v68 v69 v70 v71 v72 v73 v75, Below W.heap.size W W1 → W1.ownsRow W.heap.size 9 1 v' (n - 1) (L.take (k * 1) ++ L.drop ((k + 1) * 1)) → Q .normal { tmps := (t0 :: t1 :: t2 :: t3 :: t4 :: .pointer (some ⟨xb, 0, none⟩) :: .int .i64 (k : Nat) :: t7 :: t8 :: t9 :: t10 :: t11 :: t12 :: t13 :: t14 :: t15 :: t16 :: t17 :: t18 :: t19 :: t20 :: t21 :: t22 :: t23 :: t24 :: t25 :: t26 :: t27 :: t28 :: t29 :: t30 :: t31 :: t32 :: t33 :: t34 :: t35 :: t36 :: t37 :: t38 :: t39 :: t40 :: t41 :: t42 :: t43 :: t44 :: t45 :: t46 :: t47 :: t48 :: t49 :: t50 :: t51 :: t52 :: t53 :: t54 :: t55 :: t56 :: t57 :: t58 :: t59 :: t60 :: t61 :: t62 :: v63 :: v64 :: v65 :: v66 :: v67 :: v68 :: v69 :: v70 :: v71 :: v72 :: v73 :: v' :: v75 :: t76 :: []).toArray, defers := [] } (W1.setCell ⟨xb, 5, none⟩ v')) :
    Code.wp Try.prog (Code.region 14 #[{ dst := some 63, op := Op.buildSlice 26 0 #[], type := 26, pos := "l14_draw.go:889", after := #[], guard := none }, { dst := some 64, op := Op.fieldAddr 28 (Operand.tmp 5) 4, type := 0, pos := "l14_draw.go:889", after := #[], guard := none }, { dst := some 65, op := Op.load 26 (Operand.tmp 64), type := 26, pos := "l14_draw.go:889", after := #[{ on := 1, ground := Ground.data }], guard := none }, { dst := some 66, op := Op.move (Operand.tmp 6), type := 3, pos := "l14_draw.go:889", after := #[], guard := none }, { dst := some 67, op := Op.slice 26 (Operand.tmp 65) none (some (Operand.tmp 66)) none, type := 26, pos := "l14_draw.go:889", after := #[{ on := 2, ground := Ground.data }, { on := 3, ground := Ground.data }], guard := none }, { dst := some 68, op := Op.call { callee := Callee.builtin Builtin.append, args := #[Operand.tmp 63, Operand.tmp 67], argTypes := #[26, 26] }, type := 26, pos := "l14_draw.go:889", after := #[{ on := 0, ground := Ground.data }, { on := 4, ground := Ground.data }], guard := none }, { dst := some 69, op := Op.fieldAddr 28 (Operand.tmp 5) 4, type := 0, pos := "l14_draw.go:889", after := #[], guard := none }, { dst := some 70, op := Op.load 26 (Operand.tmp 69), type := 26, pos := "l14_draw.go:889", after := #[{ on := 6, ground := Ground.data }], guard := none }, { dst := some 71, op := Op.move (Operand.tmp 6), type := 3, pos := "l14_draw.go:889", after := #[], guard := none }, { dst := some 72, op := Op.binOp BinOp.add 3 (Operand.tmp 71) (Operand.const (Value.int IntKind.i64 1)) 3, type := 3, pos := "l14_draw.go:889", after := #[{ on := 8, ground := Ground.data }], guard := none }, { dst := some 73, op := Op.slice 26 (Operand.tmp 70) (some (Operand.tmp 72)) none none, type := 26, pos := "l14_draw.go:889", after := #[{ on := 7, ground := Ground.data }, { on := 9, ground := Ground.data }], guard := none }, { dst := some 74, op := Op.call { callee := Callee.builtin Builtin.append, args := #[Operand.tmp 68, Operand.tmp 73], argTypes := #[26, 26] }, type := 26, pos := "l14_draw.go:889", after := #[{ on := 5, ground := Ground.data }, { on := 10, ground := Ground.data }, { on := 5, ground := Ground.chain }], guard := none }, { dst := some 75, op := Op.fieldAddr 28 (Operand.tmp 5) 4, type := 0, pos := "l14_draw.go:889", after := #[{ on := 0, ground := Ground.phase }, { on := 1, ground := Ground.phase }, { on := 2, ground := Ground.phase }, { on := 3, ground := Ground.phase }, { on := 4, ground := Ground.phase }, { on := 5, ground := Ground.phase }, { on := 6, ground := Ground.phase }, { on := 7, ground := Ground.phase }, { on := 8, ground := Ground.phase }, { on := 9, ground := Ground.phase }, { on := 10, ground := Ground.phase }, { on := 11, ground := Ground.phase }], guard := none }, { dst := none, op := Op.store 26 (Operand.tmp 75) (Operand.tmp 74), type := 0, pos := "l14_draw.go:889", after := #[{ on := 12, ground := Ground.data }, { on := 11, ground := Ground.data }, { on := 11, ground := Ground.chain }, { on := 0, ground := Ground.phase }, { on := 1, ground := Ground.phase }, { on := 2, ground := Ground.phase }, { on := 3, ground := Ground.phase }, { on := 4, ground := Ground.phase }, { on := 5, ground := Ground.phase }, { on := 6, ground := Ground.phase }, { on := 7, ground := Ground.phase }, { on := 8, ground := Ground.phase }, { on := 9, ground := Ground.phase }, { on := 10, ground := Ground.phase }, { on := 11, ground := Ground.phase }], guard := none }] true) Q { tmps := (t0 :: t1 :: t2 :: t3 :: t4 :: .pointer (some ⟨xb, 0, none⟩) :: .int .i64 (k : Nat) :: t7 :: t8 :: t9 :: t10 :: t11 :: t12 :: t13 :: t14 :: t15 :: t16 :: t17 :: t18 :: t19 :: t20 :: t21 :: t22 :: t23 :: t24 :: t25 :: t26 :: t27 :: t28 :: t29 :: t30 :: t31 :: t32 :: t33 :: t34 :: t35 :: t36 :: t37 :: t38 :: t39 :: t40 :: t41 :: t42 :: t43 :: t44 :: t45 :: t46 :: t47 :: t48 :: t49 :: t50 :: t51 :: t52 :: t53 :: t54 :: t55 :: t56 :: t57 :: t58 :: t59 :: t60 :: t61 :: t62 :: t63 :: t64 :: t65 :: t66 :: t67 :: t68 :: t69 :: t70 :: t71 :: t72 :: t73 :: t74 :: t75 :: t76 :: []).toArray, defers := [] } W := by
  obtain ⟨i0, hi, hz0, hz1, hz2⟩ := info_parts textInfo
  obtain ⟨hn1, hn2⟩ := hn
  unfold maxLen at hn2
  have hvl := World.block_lt_of_cell? W _ hv
  have HV : Hid (∀ w', Below W.heap.size W w' → (w'.cell? ⟨xb, 5, none⟩ = some (.slice na n nc) ∧ w'.frozen? ⟨xb, 5, none⟩ = false)) := fun w' h => ⟨(h.cell (p := ⟨xb, 5, none⟩) hvl).trans hv, (h.frozen (p := ⟨xb, 5, none⟩) hvl).trans hf⟩
  have HT : Hid (∀ w', Below W.heap.size W w' → Src w' na k (L.take (k * 1))) := fun w' h => Lies.take0 (hL.grow h) hl (by omega) k (by omega)
  have HD : Hid (∀ w', Below W.heap.size W w' → Src w' (if nc = k + 1 then na else na.map (fun x => x.add (k + 1))) (n - (k + 1)) (L.drop ((k + 1) * 1))) := fun w' h => by have := Lies.drop (hL.grow h) hl (by omega) (k + 1) nc hn1; simpa using this
  have HL : Hid ((L.take (k * 1)).length = k * 1 ∧ (L.drop ((k + 1) * 1)).length = (n - (k + 1)) * 1) := ⟨by rw [List.length_take, hl]; exact Nat.min_eq_left (Nat.mul_le_mul_right _ (by omega)), by rw [List.length_drop, hl, Nat.sub_mul]⟩
  have H1 : Hid ((∀ u ∈ L.take (k * 1), u.oneCell' = true) ∧ (∀ u ∈ L.drop ((k + 1) * 1), u.oneCell' = true)) := ⟨fun u hu => h1 u (List.mem_of_mem_take hu), fun u hu => h1 u (List.mem_of_mem_drop hu)⟩
  clear hv hf hL hl h1
  have hB0 : Below W.heap.size W W.drew := (Below.refl _ W).drew
  refine wp_region_held_drew (S := fun _ => True) (by kernel_rfl) trivial (fun _ => ?_)
  generalize W.drew = Wd at *
  have hSw : (fun _ : World => True) Wd := trivial
  refine wpAnyH_take (i := 1) (v := .pointer (some ⟨xb, 5, none⟩)) rfl (by kernel_rfl) (by kernel_rfl) (by kernel_rfl) (fun _ _ _ h => hp _ _ _ _ _ h) (Or.inl ⟨by rfl, ?_⟩) (by assumption) ?_
  · intro w hSw
    (try dsimp only at hSw)
    go_simp
  (try simp only [Act.put, List.getElem_toArray, List.getElem_cons_zero, List.getElem_cons_succ, List.setIfInBounds_toArray, List.set_cons_zero, List.set_cons_succ])
  refine wpAnyH_take (i := 3) (v := .int .i64 (k : Nat)) rfl (by kernel_rfl) (by kernel_rfl) (by kernel_rfl) (fun _ _ _ h => hp _ _ _ _ _ h) (Or.inl ⟨by rfl, ?_⟩) (by assumption) ?_
  · intro w hSw
    (try dsimp only at hSw)
    go_simp
  (try simp only [Act.put, List.getElem_toArray, List.getElem_cons_zero, List.getElem_cons_succ, List.setIfInBounds_toArray, List.set_cons_zero, List.set_cons_succ])
  refine wpAnyH_take (i := 6) (v := .pointer (some ⟨xb, 5, none⟩)) rfl (by kernel_rfl) (by kernel_rfl) (by kernel_rfl) (fun _ _ _ h => hp _ _ _ _ _ h) (Or.inl ⟨by rfl, ?_⟩) (by assumption) ?_
  · intro w hSw
    (try dsimp only at hSw)
    go_simp
  (try simp only [Act.put, List.getElem_toArray, List.getElem_cons_zero, List.getElem_cons_succ, List.setIfInBounds_toArray, List.set_cons_zero, List.set_cons_succ])
  refine wpAnyH_take (i := 8) (v := .int .i64 (k : Nat)) rfl (by kernel_rfl) (by kernel_rfl) (by kernel_rfl) (fun _ _ _ h => hp _ _ _ _ _ h) (Or.inl ⟨by rfl, ?_⟩) (by assumption) ?_
  · intro w hSw
    (try dsimp only at hSw)
    go_simp
  (try simp only [Act.put, List.getElem_toArray, List.getElem_cons_zero, List.getElem_cons_succ, List.setIfInBounds_toArray, List.set_cons_zero, List.set_cons_succ])
  refine wpAnyH_take (i := 9) (v := .int .i64 ((k : Int) + 1)) rfl (by kernel_rfl) (by kernel_rfl) (by kernel_rfl) (fun _ _ _ h => hp _ _ _ _ _ h) (Or.inl ⟨by rfl, ?_⟩) (by assumption) ?_
  · intro w hSw
    (try dsimp only at hSw)
    (go_simp <;> (first | done | (rw [IntKind.wrap_i64] <;> omega)))
  (try simp only [Act.put, List.getElem_toArray, List.getElem_cons_zero, List.getElem_cons_succ, List.setIfInBounds_toArray, List.set_cons_zero, List.set_cons_succ])
  clear hSw
  refine wpAnyH_ready (rs := [0, 2, 7]) (by kernel_rfl) (by simp) ?_
  refine AllReadyH.cons rfl (fun K hK => ?_) (AllReadyH.cons rfl (fun K hK => ?_) (AllReadyH.cons rfl (fun K hK => ?_) AllReadyH.nil))
  · skip
    go_simp
    have hown := own_nothing Wd W.heap.size 1 9 hB0.size
    have hB1 := hB0.alloc hB0.size (.cells #[] 9)
    refine hK.out _ _ trivial (fun _ => ?_)
    clear hK K hB0
    have hB0 := hB1
    clear hB1
    obtain ⟨g0, hg0⟩ : ∃ g, Wd.heap.size = g := ⟨_, rfl⟩
    rw [hg0] at hown ⊢
    obtain ⟨vo, hvo⟩ : ∃ vo, vo = Value.slice (some ⟨g0, 0, none⟩) 0 0 := ⟨_, rfl⟩
    rw [← hvo] at hown ⊢
    clear hvo
    generalize Wd.alloc (.cells #[] 9) = W1 at *
    clear hg0
    refine wpAnyH_ready (rs := [2, 7]) (by kernel_rfl) (by simp) ?_
    refine AllReadyH.cons rfl (fun K hK => ?_) (AllReadyH.cons rfl (fun K hK => ?_) AllReadyH.nil)
    · skip
      obtain ⟨hcl, _⟩ := HV.out _ hB0
      go_simp
      refine hK.out _ _ trivial (fun _ => ?_)
      clear hK K hcl
      (try simp only [Act.put, List.getElem_toArray, List.getElem_cons_zero, List.getElem_cons_succ, List.setIfInBounds_toArray, List.set_cons_zero, List.set_cons_succ])
      have hSw : (fun _ : World => True) W1 := trivial
      refine wpAnyH_take (i := 4) (v := .slice na k nc) rfl (by kernel_rfl) (by kernel_rfl) (by kernel_rfl) (fun _ _ _ h => hp _ _ _ _ _ h) (Or.inl ⟨by rfl, ?_⟩) (by assumption) ?_
      · intro w hSw
        (try dsimp only at hSw)
        (go_simp <;> first | done | omega | (simp [sliced]; omega) | simp [sliced])
      (try simp only [Act.put, List.getElem_toArray, List.getElem_cons_zero, List.getElem_cons_succ, List.setIfInBounds_toArray, List.set_cons_zero, List.set_cons_succ])
      clear hSw
      refine wpAnyH_ready (rs := [5, 7]) (by kernel_rfl) (by simp) ?_
      refine AllReadyH.cons rfl (fun K hK => ?_) (AllReadyH.cons rfl (fun K hK => ?_) AllReadyH.nil)
      · skip
        refine wp_append_lie W1 _ _ 26 rfl W.heap.size 9 i0 _ 1 16 Try.underlying26 hi hz0 hz1 hz2 rfl (by decide) vo 0 [] rfl hown na k nc (L.take (k * 1)) rfl HL.out.1 (HT.out _ hB0) H1.out.1 (by unfold maxLen; omega) (by omega) hB0.size ?_
        intro vo2 W2 hown2 hgr _
        have hB1 := below_grown hB0 hown hgr hB0.size
        refine hK.out _ _ trivial (fun _ => ?_)
        clear hK K hB0 hown hgr
        have hB0 := hB1
        clear hB1
        have hown := hown2
        clear hown2
        (try simp only [Act.put, List.getElem_toArray, List.getElem_cons_zero, List.getElem_cons_succ, List.setIfInBounds_toArray, List.set_cons_zero, List.set_cons_succ])
        rw [List.nil_append, Nat.zero_add] at hown
        refine wpAnyH_ready (rs := [7]) (by kernel_rfl) (by simp) ?_
        refine AllReadyH.cons rfl (fun K hK => ?_) AllReadyH.nil
        obtain ⟨hcl, _⟩ := HV.out _ hB0
        go_simp
        refine hK.out _ _ trivial (fun _ => ?_)
        clear hK K hcl
        (try simp only [Act.put, List.getElem_toArray, List.getElem_cons_zero, List.getElem_cons_succ, List.setIfInBounds_toArray, List.set_cons_zero, List.set_cons_succ])
        have hSw : (fun _ : World => True) W2 := trivial
        have hk1 : (0 : Int) ≤ (k : Int) + 1 := by omega
        have hk2 : (k : Int) + 1 ≤ (n : Int) := by omega
        have hk3 : ((k : Int) + 1).toNat = k + 1 := by omega
        refine wpAnyH_take (i := 10) (v := .slice (if nc = k + 1 then na else na.map (fun x => x.add (k + 1))) (n - (k + 1)) (nc - (k + 1))) rfl (by kernel_rfl) (by kernel_rfl) (by kernel_rfl) (fun _ _ _ h => hp _ _ _ _ _ h) (Or.inl ⟨by rfl, ?_⟩) (by assumption) ?_
        · intro w hSw
          (try dsimp only at hSw)
          (go_simp <;> first | done | omega | (simp [sliced, hk3]; done) | (simp [sliced, hk3]; omega))
        (try simp only [Act.put, List.getElem_toArray, List.getElem_cons_zero, List.getElem_cons_succ, List.setIfInBounds_toArray, List.set_cons_zero, List.set_cons_succ])
        clear hSw hk1 hk2 hk3
        refine wpAnyH_ready (rs := [11]) (by kernel_rfl) (by simp) ?_
        refine AllReadyH.cons rfl (fun K hK => ?_) AllReadyH.nil
        refine wp_append_lie W2 _ _ 26 rfl W.heap.size 9 i0 _ 1 16 Try.underlying26 hi hz0 hz1 hz2 rfl (by decide) vo2 k (L.take (k * 1)) rfl hown (if nc = k + 1 then na else na.map (fun x => x.add (k + 1))) (n - (k + 1)) (nc - (k + 1)) (L.drop ((k + 1) * 1)) rfl HL.out.2 (HD.out _ hB0) H1.out.2 (by unfold maxLen; omega) (by omega) hB0.size ?_
        intro v' W3 hown2 hgr _
        have hB1 := below_grown hB0 hown hgr hB0.size
        refine hK.out _ _ trivial (fun _ => ?_)
        clear hK K hB0 hown hgr
        (try simp only [Act.put, List.getElem_toArray, List.getElem_cons_zero, List.getElem_cons_succ, List.setIfInBounds_toArray, List.set_cons_zero, List.set_cons_succ])
        have hSw : (fun _ : World => True) W3 := trivial
        refine wpAnyH_take (i := 12) (v := .pointer (some ⟨xb, 5, none⟩)) rfl (by kernel_rfl) (by kernel_rfl) (by kernel_rfl) (fun _ _ _ h => hp _ _ _ _ _ h) (Or.inl ⟨by rfl, ?_⟩) (by assumption) ?_
        · intro w hSw
          (try dsimp only at hSw)
          go_simp
        (try simp only [Act.put, List.getElem_toArray, List.getElem_cons_zero, List.getElem_cons_succ, List.setIfInBounds_toArray, List.set_cons_zero, List.set_cons_succ])
        obtain ⟨hvc, hvf⟩ := HV.out _ hB1
        rw [show k + (n - (k + 1)) = n - 1 by omega] at hown2
        obtain ⟨a9, c9, rfl, _, _, _⟩ := own_lies hown2
        refine wpAnyH_ready (rs := [13]) (by kernel_rfl) (by simp) ?_
        refine AllReadyH.cons rfl (fun K hK => ?_) AllReadyH.nil
        go_simp
        refine hK.out _ _ trivial (fun _ => ?_)
        refine wpAnyH_done (by kernel_rfl) ?_ _
        exact h _ _ _ _ _ _ _ _ _ _ _ _ _ _ hB1 hown2
      · skip
        obtain ⟨hcl, _⟩ := HV.out _ hB0
        go_simp
        refine hK.out _ _ trivial (fun _ => ?_)
        clear hK K hcl
        (try simp only [Act.put, List.getElem_toArray, List.getElem_cons_zero, List.getElem_cons_succ, List.setIfInBounds_toArray, List.set_cons_zero, List.set_cons_succ])
        have hSw : (fun _ : World => True) W1 := trivial
        have hk1 : (0 : Int) ≤ (k : Int) + 1 := by omega
        have hk2 : (k : Int) + 1 ≤ (n : Int) := by omega
        have hk3 : ((k : Int) + 1).toNat = k + 1 := by omega
        refine wpAnyH_take (i := 10) (v := .slice (if nc = k + 1 then na else na.map (fun x => x.add (k + 1))) (n - (k + 1)) (nc - (k + 1))) rfl (by kernel_rfl) (by kernel_rfl) (by kernel_rfl) (fun _ _ _ h => hp _ _ _ _ _ h) (Or.inl ⟨by rfl, ?_⟩) (by assumption) ?_
        · intro w hSw
          (try dsimp only at hSw)
          (go_simp <;> first | done | omega | (simp [sliced, hk3]; done) | (simp [sliced, hk3]; omega))
        (try simp only [Act.put, List.getElem_toArray, List.getElem_cons_zero, List.getElem_cons_succ, List.setIfInBounds_toArray, List.set_cons_zero, List.set_cons_succ])
        clear hSw hk1 hk2 hk3
        refine wpAnyH_ready (rs := [5]) (by kernel_rfl) (by simp) ?_
        refine AllReadyH.cons rfl (fun K hK => ?_) AllReadyH.nil
        refine wp_append_lie W1 _ _ 26 rfl W.heap.size 9 i0 _ 1 16 Try.underlying26 hi hz0 hz1 hz2 rfl (by decide) vo 0 [] rfl hown na k nc (L.take (k * 1)) rfl HL.out.1 (HT.out _ hB0) H1.out.1 (by unfold maxLen; omega) (by omega) hB0.size ?_
        intro vo2 W4 hown2 hgr _
        have hB1 := below_grown hB0 hown hgr hB0.size
        refine hK.out _ _ trivial (fun _ => ?_)
        clear hK K hB0 hown hgr
        have hB0 := hB1
        clear hB1
        have hown := hown2
        clear hown2
        (try simp only [Act.put, List.getElem_toArray, List.getElem_cons_zero, List.getElem_cons_succ, List.setIfInBounds_toArray, List.set_cons_zero, List.set_cons_succ])
        rw [List.nil_append, Nat.zero_add] at hown
        refine wpAnyH_ready (rs := [11]) (by kernel_rfl) (by simp) ?_
        refine AllReadyH.cons rfl (fun K hK => ?_) AllReadyH.nil
        refine wp_append_lie W4 _ _ 26 rfl W.heap.size 9 i0 _ 1 16 Try.underlying26 hi hz0 hz1 hz2 rfl (by decide) vo2 k (L.take (k * 1)) rfl hown (if nc = k + 1 then na else na.map (fun x => x.add (k + 1))) (n - (k + 1)) (nc - (k + 1)) (L.drop ((k + 1) * 1)) rfl HL.out.2 (HD.out _ hB0) H1.out.2 (by unfold maxLen; omega) (by omega) hB0.size ?_
        intro v' W5 hown2 hgr _
        have hB1 := below_grown hB0 hown hgr hB0.size
        refine hK.out _ _ trivial (fun _ => ?_)
        clear hK K hB0 hown hgr
        (try simp only [Act.put, List.getElem_toArray, List.getElem_cons_zero, List.getElem_cons_succ, List.setIfInBounds_toArray, List.set_cons_zero, List.set_cons_succ])
        have hSw : (fun _ : World => True) W5 := trivial
        refine wpAnyH_take (i := 12) (v := .pointer (some ⟨xb, 5, none⟩)) rfl (by kernel_rfl) (by kernel_rfl) (by kernel_rfl) (fun _ _ _ h => hp _ _ _ _ _ h) (Or.inl ⟨by rfl, ?_⟩) (by assumption) ?_
        · intro w hSw
          (try dsimp only at hSw)
          go_simp
        (try simp only [Act.put, List.getElem_toArray, List.getElem_cons_zero, List.getElem_cons_succ, List.setIfInBounds_toArray, List.set_cons_zero, List.set_cons_succ])
        obtain ⟨hvc, hvf⟩ := HV.out _ hB1
        rw [show k + (n - (k + 1)) = n - 1 by omega] at hown2
        obtain ⟨a9, c9, rfl, _, _, _⟩ := own_lies hown2
        refine wpAnyH_ready (rs := [13]) (by kernel_rfl) (by simp) ?_
        refine AllReadyH.cons rfl (fun K hK => ?_) AllReadyH.nil
        go_simp
        refine hK.out _ _ trivial (fun _ => ?_)
        refine wpAnyH_done (by kernel_rfl) ?_ _
        exact h _ _ _ _ _ _ _ _ _ _ _ _ _ _ hB1 hown2
    · skip
      obtain ⟨hcl, _⟩ := HV.out _ hB0
      go_simp
      refine hK.out _ _ trivial (fun _ => ?_)
      clear hK K hcl
      (try simp only [Act.put, List.getElem_toArray, List.getElem_cons_zero, List.getElem_cons_succ, List.setIfInBounds_toArray, List.set_cons_zero, List.set_cons_succ])
      have hSw : (fun _ : World => True) W1 := trivial
      have hk1 : (0 : Int) ≤ (k : Int) + 1 := by omega
      have hk2 : (k : Int) + 1 ≤ (n : Int) := by omega
      have hk3 : ((k : Int) + 1).toNat = k + 1 := by omega
      refine wpAnyH_take (i := 10) (v := .slice (if nc = k + 1 then na else na.map (fun x => x.add (k + 1))) (n - (k + 1)) (nc - (k + 1))) rfl (by kernel_rfl) (by kernel_rfl) (by kernel_rfl) (fun _ _ _ h => hp _ _ _ _ _ h) (Or.inl ⟨by rfl, ?_⟩) (by assumption) ?_
      · intro w hSw
        (try dsimp only at hSw)
        (go_simp <;> first | done | omega | (simp [sliced, hk3]; done) | (simp [sliced, hk3]; omega))
      (try simp only [Act.put, List.getElem_toArray, List.getElem_cons_zero, List.getElem_cons_succ, List.setIfInBounds_toArray, List.set_cons_zero, List.set_cons_succ])
      clear hSw hk1 hk2 hk3
      refine wpAnyH_ready (rs := [2]) (by kernel_rfl) (by simp) ?_
      refine AllReadyH.cons rfl (fun K hK => ?_) AllReadyH.nil
      obtain ⟨hcl, _⟩ := HV.out _ hB0
      go_simp
      refine hK.out _ _ trivial (fun _ => ?_)
      clear hK K hcl
      (try simp only [Act.put, List.getElem_toArray, List.getElem_cons_zero, List.getElem_cons_succ, List.setIfInBounds_toArray, List.set_cons_zero, List.set_cons_succ])
      have hSw : (fun _ : World => True) W1 := trivial
      refine wpAnyH_take (i := 4) (v := .slice na k nc) rfl (by kernel_rfl) (by kernel_rfl) (by kernel_rfl) (fun _ _ _ h => hp _ _ _ _ _ h) (Or.inl ⟨by rfl, ?_⟩) (by assumption) ?_
      · intro w hSw
        (try dsimp only at hSw)
        (go_simp <;> first | done | omega | (simp [sliced]; omega) | simp [sliced])
      (try simp only [Act.put, List.getElem_toArray, List.getElem_cons_zero, List.getElem_cons_succ, List.setIfInBounds_toArray, List.set_cons_zero, List.set_cons_succ])
      clear hSw
      refine wpAnyH_ready (rs := [5]) (by kernel_rfl) (by simp) ?_
      refine AllReadyH.cons rfl (fun K hK => ?_) AllReadyH.nil
      refine wp_append_lie W1 _ _ 26 rfl W.heap.size 9 i0 _ 1 16 Try.underlying26 hi hz0 hz1 hz2 rfl (by decide) vo 0 [] rfl hown na k nc (L.take (k * 1)) rfl HL.out.1 (HT.out _ hB0) H1.out.1 (by unfold maxLen; omega) (by omega) hB0.size ?_
      intro vo2 W6 hown2 hgr _
      have hB1 := below_grown hB0 hown hgr hB0.size
      refine hK.out _ _ trivial (fun _ => ?_)
      clear hK K hB0 hown hgr
      have hB0 := hB1
      clear hB1
      have hown := hown2
      clear hown2
      (try simp only [Act.put, List.getElem_toArray, List.getElem_cons_zero, List.getElem_cons_succ, List.setIfInBounds_toArray, List.set_cons_zero, List.set_cons_succ])
      rw [List.nil_append, Nat.zero_add] at hown
      refine wpAnyH_ready (rs := [11]) (by kernel_rfl) (by simp) ?_
      refine AllReadyH.cons rfl (fun K hK => ?_) AllReadyH.nil
      refine wp_append_lie W6 _ _ 26 rfl W.heap.size 9 i0 _ 1 16 Try.underlying26 hi hz0 hz1 hz2 rfl (by decide) vo2 k (L.take (k * 1)) rfl hown (if nc = k + 1 then na else na.map (fun x => x.add (k + 1))) (n - (k + 1)) (nc - (k + 1)) (L.drop ((k + 1) * 1)) rfl HL.out.2 (HD.out _ hB0) H1.out.2 (by unfold maxLen; omega) (by omega) hB0.size ?_
      intro v' W7 hown2 hgr _
      have hB1 := below_grown hB0 hown hgr hB0.size
      refine hK.out _ _ trivial (fun _ => ?_)
      clear hK K hB0 hown hgr
      (try simp only [Act.put, List.getElem_toArray, List.getElem_cons_zero, List.getElem_cons_succ, List.setIfInBounds_toArray, List.set_cons_zero, List.set_cons_succ])
      have hSw : (fun _ : World => True) W7 := trivial
      refine wpAnyH_take (i := 12) (v := .pointer (some ⟨xb, 5, none⟩)) rfl (by kernel_rfl) (by kernel_rfl) (by kernel_rfl) (fun _ _ _ h => hp _ _ _ _ _ h) (Or.inl ⟨by rfl, ?_⟩) (by assumption) ?_
      · intro w hSw
        (try dsimp only at hSw)
        go_simp
      (try simp only [Act.put, List.getElem_toArray, List.getElem_cons_zero, List.getElem_cons_succ, List.setIfInBounds_toArray, List.set_cons_zero, List.set_cons_succ])
      obtain ⟨hvc, hvf⟩ := HV.out _ hB1
      rw [show k + (n - (k + 1)) = n - 1 by omega] at hown2
      obtain ⟨a9, c9, rfl, _, _, _⟩ := own_lies hown2
      refine wpAnyH_ready (rs := [13]) (by kernel_rfl) (by simp) ?_
      refine AllReadyH.cons rfl (fun K hK => ?_) AllReadyH.nil
      go_simp
      refine hK.out _ _ trivial (fun _ => ?_)
      refine wpAnyH_done (by kernel_rfl) ?_ _
      exact h _ _ _ _ _ _ _ _ _ _ _ _ _ _ hB1 hown2
  · skip
    obtain ⟨hcl, _⟩ := HV.out _ hB0
    go_simp
    refine hK.out _ _ trivial (fun _ => ?_)
    clear hK K hcl
    (try simp only [Act.put, List.getElem_toArray, List.getElem_cons_zero, List.getElem_cons_succ, List.setIfInBounds_toArray, List.set_cons_zero, List.set_cons_succ])
    have hSw : (fun _ : World => True) Wd := trivial
    refine wpAnyH_take (i := 4) (v := .slice na k nc) rfl (by kernel_rfl) (by kernel_rfl) (by kernel_rfl) (fun _ _ _ h => hp _ _ _ _ _ h) (Or.inl ⟨by rfl, ?_⟩) (by assumption) ?_
    · intro w hSw
      (try dsimp only at hSw)
      (go_simp <;> first | done | omega | (simp [sliced]; omega) | simp [sliced])
    (try simp only [Act.put, List.getElem_toArray, List.getElem_cons_zero, List.getElem_cons_succ, List.setIfInBounds_toArray, List.set_cons_zero, List.set_cons_succ])
    clear hSw
    refine wpAnyH_ready (rs := [0, 7]) (by kernel_rfl) (by simp) ?_
    refine AllReadyH.cons rfl (fun K hK => ?_) (AllReadyH.cons rfl (fun K hK => ?_) AllReadyH.nil)
    · skip
      go_simp
      have hown := own_nothing Wd W.heap.size 1 9 hB0.size
      have hB1 := hB0.alloc hB0.size (.cells #[] 9)
      refine hK.out _ _ trivial (fun _ => ?_)
      clear hK K hB0
      have hB0 := hB1
      clear hB1
      obtain ⟨g0, hg0⟩ : ∃ g, Wd.heap.size = g := ⟨_, rfl⟩
      rw [hg0] at hown ⊢
      obtain ⟨vo, hvo⟩ : ∃ vo, vo = Value.slice (some ⟨g0, 0, none⟩) 0 0 := ⟨_, rfl⟩
      rw [← hvo] at hown ⊢
      clear hvo
      generalize Wd.alloc (.cells #[] 9) = W8 at *
      clear hg0
      refine wpAnyH_ready (rs := [5, 7]) (by kernel_rfl) (by simp) ?_
      refine AllReadyH.cons rfl (fun K hK => ?_) (AllReadyH.cons rfl (fun K hK => ?_) AllReadyH.nil)
      · skip
        refine wp_append_lie W8 _ _ 26 rfl W.heap.size 9 i0 _ 1 16 Try.underlying26 hi hz0 hz1 hz2 rfl (by decide) vo 0 [] rfl hown na k nc (L.take (k * 1)) rfl HL.out.1 (HT.out _ hB0) H1.out.1 (by unfold maxLen; omega) (by omega) hB0.size ?_
        intro vo2 W9 hown2 hgr _
        have hB1 := below_grown hB0 hown hgr hB0.size
        refine hK.out _ _ trivial (fun _ => ?_)
        clear hK K hB0 hown hgr
        have hB0 := hB1
        clear hB1
        have hown := hown2
        clear hown2
        (try simp only [Act.put, List.getElem_toArray, List.getElem_cons_zero, List.getElem_cons_succ, List.setIfInBounds_toArray, List.set_cons_zero, List.set_cons_succ])
        rw [List.nil_append, Nat.zero_add] at hown
        refine wpAnyH_ready (rs := [7]) (by kernel_rfl) (by simp) ?_
        refine AllReadyH.cons rfl (fun K hK => ?_) AllReadyH.nil
        obtain ⟨hcl, _⟩ := HV.out _ hB0
        go_simp
        refine hK.out _ _ trivial (fun _ => ?_)
        clear hK K hcl
        (try simp only [Act.put, List.getElem_toArray, List.getElem_cons_zero, List.getElem_cons_succ, List.setIfInBounds_toArray, List.set_cons_zero, List.set_cons_succ])
        have hSw : (fun _ : World => True) W9 := trivial
        have hk1 : (0 : Int) ≤ (k : Int) + 1 := by omega
        have hk2 : (k : Int) + 1 ≤ (n : Int) := by omega
        have hk3 : ((k : Int) + 1).toNat = k + 1 := by omega
        refine wpAnyH_take (i := 10) (v := .slice (if nc = k + 1 then na else na.map (fun x => x.add (k + 1))) (n - (k + 1)) (nc - (k + 1))) rfl (by kernel_rfl) (by kernel_rfl) (by kernel_rfl) (fun _ _ _ h => hp _ _ _ _ _ h) (Or.inl ⟨by rfl, ?_⟩) (by assumption) ?_
        · intro w hSw
          (try dsimp only at hSw)
          (go_simp <;> first | done | omega | (simp [sliced, hk3]; done) | (simp [sliced, hk3]; omega))
        (try simp only [Act.put, List.getElem_toArray, List.getElem_cons_zero, List.getElem_cons_succ, List.setIfInBounds_toArray, List.set_cons_zero, List.set_cons_succ])
        clear hSw hk1 hk2 hk3
        refine wpAnyH_ready (rs := [11]) (by kernel_rfl) (by simp) ?_
        refine AllReadyH.cons rfl (fun K hK => ?_) AllReadyH.nil
        refine wp_append_lie W9 _ _ 26 rfl W.heap.size 9 i0 _ 1 16 Try.underlying26 hi hz0 hz1 hz2 rfl (by decide) vo2 k (L.take (k * 1)) rfl hown (if nc = k + 1 then na else na.map (fun x => x.add (k + 1))) (n - (k + 1)) (nc - (k + 1)) (L.drop ((k + 1) * 1)) rfl HL.out.2 (HD.out _ hB0) H1.out.2 (by unfold maxLen; omega) (by omega) hB0.size ?_
        intro v' W10 hown2 hgr _
        have hB1 := below_grown hB0 hown hgr hB0.size
        refine hK.out _ _ trivial (fun _ => ?_)
        clear hK K hB0 hown hgr
        (try simp only [Act.put, List.getElem_toArray, List.getElem_cons_zero, List.getElem_cons_succ, List.setIfInBounds_toArray, List.set_cons_zero, List.set_cons_succ])
        have hSw : (fun _ : World => True) W10 := trivial
        refine wpAnyH_take (i := 12) (v := .pointer (some ⟨xb, 5, none⟩)) rfl (by kernel_rfl) (by kernel_rfl) (by kernel_rfl) (fun _ _ _ h => hp _ _ _ _ _ h) (Or.inl ⟨by rfl, ?_⟩) (by assumption) ?_
        · intro w hSw
          (try dsimp only at hSw)
          go_simp
        (try simp only [Act.put, List.getElem_toArray, List.getElem_cons_zero, List.getElem_cons_succ, List.setIfInBounds_toArray, List.set_cons_zero, List.set_cons_succ])
        obtain ⟨hvc, hvf⟩ := HV.out _ hB1
        rw [show k + (n - (k + 1)) = n - 1 by omega] at hown2
        obtain ⟨a9, c9, rfl, _, _, _⟩ := own_lies hown2
        refine wpAnyH_ready (rs := [13]) (by kernel_rfl) (by simp) ?_
        refine AllReadyH.cons rfl (fun K hK => ?_) AllReadyH.nil
        go_simp
        refine hK.out _ _ trivial (fun _ => ?_)
        refine wpAnyH_done (by kernel_rfl) ?_ _
        exact h _ _ _ _ _ _ _ _ _ _ _ _ _ _ hB1 hown2
      · skip
        obtain ⟨hcl, _⟩ := HV.out _ hB0
        go_simp
        refine hK.out _ _ trivial (fun _ => ?_)
        clear hK K hcl
        (try simp only [Act.put, List.getElem_toArray, List.getElem_cons_zero, List.getElem_cons_succ, List.setIfInBounds_toArray, List.set_cons_zero, List.set_cons_succ])
        have hSw : (fun _ : World => True) W8 := trivial
        have hk1 : (0 : Int) ≤ (k : Int) + 1 := by omega
        have hk2 : (k : Int) + 1 ≤ (n : Int) := by omega
        have hk3 : ((k : Int) + 1).toNat = k + 1 := by omega
        refine wpAnyH_take (i := 10) (v := .slice (if nc = k + 1 then na else na.map (fun x => x.add (k + 1))) (n - (k + 1)) (nc - (k + 1))) rfl (by kernel_rfl) (by kernel_rfl) (by kernel_rfl) (fun _ _ _ h => hp _ _ _ _ _ h) (Or.inl ⟨by rfl, ?_⟩) (by assumption) ?_
        · intro w hSw
          (try dsimp only at hSw)
          (go_simp <;> first | done | omega | (simp [sliced, hk3]; done) | (simp [sliced, hk3]; omega))
        (try simp only [Act.put, List.getElem_toArray, List.getElem_cons_zero, List.getElem_cons_succ, List.setIfInBounds_toArray, List.set_cons_zero, List.set_cons_succ])
        clear hSw hk1 hk2 hk3
        refine wpAnyH_ready (rs := [5]) (by kernel_rfl) (by simp) ?_
        refine AllReadyH.cons rfl (fun K hK => ?_) AllReadyH.nil
        refine wp_append_lie W8 _ _ 26 rfl W.heap.size 9 i0 _ 1 16 Try.underlying26 hi hz0 hz1 hz2 rfl (by decide) vo 0 [] rfl hown na k nc (L.take (k * 1)) rfl HL.out.1 (HT.out _ hB0) H1.out.1 (by unfold maxLen; omega) (by omega) hB0.size ?_
        intro vo2 W11 hown2 hgr _
        have hB1 := below_grown hB0 hown hgr hB0.size
        refine hK.out _ _ trivial (fun _ => ?_)
        clear hK K hB0 hown hgr
        have hB0 := hB1
        clear hB1
        have hown := hown2
        clear hown2
        (try simp only [Act.put, List.getElem_toArray, List.getElem_cons_zero, List.getElem_cons_succ, List.setIfInBounds_toArray, List.set_cons_zero, List.set_cons_succ])
        rw [List.nil_append, Nat.zero_add] at hown
        refine wpAnyH_ready (rs := [11]) (by kernel_rfl) (by simp) ?_
        refine AllReadyH.cons rfl (fun K hK => ?_) AllReadyH.nil
        refine wp_append_lie W11 _ _ 26 rfl W.heap.size 9 i0 _ 1 16 Try.underlying26 hi hz0 hz1 hz2 rfl (by decide) vo2 k (L.take (k * 1)) rfl hown (if nc = k + 1 then na else na.map (fun x => x.add (k + 1))) (n - (k + 1)) (nc - (k + 1)) (L.drop ((k + 1) * 1)) rfl HL.out.2 (HD.out _ hB0) H1.out.2 (by unfold maxLen; omega) (by omega) hB0.size ?_
        intro v' W12 hown2 hgr _
        have hB1 := below_grown hB0 hown hgr hB0.size
        refine hK.out _ _ trivial (fun _ => ?_)
        clear hK K hB0 hown hgr
        (try simp only [Act.put, List.getElem_toArray, List.getElem_cons_zero, List.getElem_cons_succ, List.setIfInBounds_toArray, List.set_cons_zero, List.set_cons_succ])
        have hSw : (fun _ : World => True) W12 := trivial
        refine wpAnyH_take (i := 12) (v := .pointer (some ⟨xb, 5, none⟩)) rfl (by kernel_rfl) (by kernel_rfl) (by kernel_rfl) (fun _ _ _ h => hp _ _ _ _ _ h) (Or.inl ⟨by rfl, ?_⟩) (by assumption) ?_
        · intro w hSw
          (try dsimp only at hSw)
          go_simp
        (try simp only [Act.put, List.getElem_toArray, List.getElem_cons_zero, List.getElem_cons_succ, List.setIfInBounds_toArray, List.set_cons_zero, List.set_cons_succ])
        obtain ⟨hvc, hvf⟩ := HV.out _ hB1
        rw [show k + (n - (k + 1)) = n - 1 by omega] at hown2
        obtain ⟨a9, c9, rfl, _, _, _⟩ := own_lies hown2
        refine wpAnyH_ready (rs := [13]) (by kernel_rfl) (by simp) ?_
        refine AllReadyH.cons rfl (fun K hK => ?_) AllReadyH.nil
        go_simp
        refine hK.out _ _ trivial (fun _ => ?_)
        refine wpAnyH_done (by kernel_rfl) ?_ _
        exact h _ _ _ _ _ _ _ _ _ _ _ _ _ _ hB1 hown2
    · skip
      obtain ⟨hcl, _⟩ := HV.out _ hB0
      go_simp
      refine hK.out _ _ trivial (fun _ => ?_)
      clear hK K hcl
      (try simp only [Act.put, List.getElem_toArray, List.getElem_cons_zero, List.getElem_cons_succ, List.setIfInBounds_toArray, List.set_cons_zero, List.set_cons_succ])
      have hSw : (fun _ : World => True) Wd := trivial
      have hk1 : (0 : Int) ≤ (k : Int) + 1 := by omega
      have hk2 : (k : Int) + 1 ≤ (n : Int) := by omega
      have hk3 : ((k : Int) + 1).toNat = k + 1 := by omega
      refine wpAnyH_take (i := 10) (v := .slice (if nc = k + 1 then na else na.map (fun x => x.add (k + 1))) (n - (k + 1)) (nc - (k + 1))) rfl (by kernel_rfl) (by kernel_rfl) (by kernel_rfl) (fun _ _ _ h => hp _ _ _ _ _ h) (Or.inl ⟨by rfl, ?_⟩) (by assumption) ?_
      · intro w hSw
        (try dsimp only at hSw)
        (go_simp <;> first | done | omega | (simp [sliced, hk3]; done) | (simp [sliced, hk3]; omega))
      (try simp only [Act.put, List.getElem_toArray, List.getElem_cons_zero, List.getElem_cons_succ, List.setIfInBounds_toArray, List.set_cons_zero, List.set_cons_succ])
      clear hSw hk1 hk2 hk3
      refine wpAnyH_ready (rs := [0]) (by kernel_rfl) (by simp) ?_
      refine AllReadyH.cons rfl (fun K hK => ?_) AllReadyH.nil
      go_simp
      have hown := own_nothing Wd W.heap.size 1 9 hB0.size
      have hB1 := hB0.alloc hB0.size (.cells #[] 9)
      refine hK.out _ _ trivial (fun _ => ?_)
      clear hK K hB0
      have hB0 := hB1
      clear hB1
      obtain ⟨g0, hg0⟩ : ∃ g, Wd.heap.size = g := ⟨_, rfl⟩
      rw [hg0] at hown ⊢
      obtain ⟨vo, hvo⟩ : ∃ vo, vo = Value.slice (some ⟨g0, 0, none⟩) 0 0 := ⟨_, rfl⟩
      rw [← hvo] at hown ⊢
      clear hvo
      generalize Wd.alloc (.cells #[] 9) = W13 at *
      clear hg0
      refine wpAnyH_ready (rs := [5]) (by kernel_rfl) (by simp) ?_
      refine AllReadyH.cons rfl (fun K hK => ?_) AllReadyH.nil
      refine wp_append_lie W13 _ _ 26 rfl W.heap.size 9 i0 _ 1 16 Try.underlying26 hi hz0 hz1 hz2 rfl (by decide) vo 0 [] rfl hown na k nc (L.take (k * 1)) rfl HL.out.1 (HT.out _ hB0) H1.out.1 (by unfold maxLen; omega) (by omega) hB0.size ?_
      intro vo2 W14 hown2 hgr _
      have hB1 := below_grown hB0 hown hgr hB0.size
      refine hK.out _ _ trivial (fun _ => ?_)
      clear hK K hB0 hown hgr
      have hB0 := hB1
      clear hB1
      have hown := hown2
      clear hown2
      (try simp only [Act.put, List.getElem_toArray, List.getElem_cons_zero, List.getElem_cons_succ, List.setIfInBounds_toArray, List.set_cons_zero, List.set_cons_succ])
      rw [List.nil_append, Nat.zero_add] at hown
      refine wpAnyH_ready (rs := [11]) (by kernel_rfl) (by simp) ?_
      refine AllReadyH.cons rfl (fun K hK => ?_) AllReadyH.nil
      refine wp_append_lie W14 _ _ 26 rfl W.heap.size 9 i0 _ 1 16 Try.underlying26 hi hz0 hz1 hz2 rfl (by decide) vo2 k (L.take (k * 1)) rfl hown (if nc = k + 1 then na else na.map (fun x => x.add (k + 1))) (n - (k + 1)) (nc - (k + 1)) (L.drop ((k + 1) * 1)) rfl HL.out.2 (HD.out _ hB0) H1.out.2 (by unfold maxLen; omega) (by omega) hB0.size ?_
      intro v' W15 hown2 hgr _
      have hB1 := below_grown hB0 hown hgr hB0.size
      refine hK.out _ _ trivial (fun _ => ?_)
      clear hK K hB0 hown hgr
      (try simp only [Act.put, List.getElem_toArray, List.getElem_cons_zero, List.getElem_cons_succ, List.setIfInBounds_toArray, List.set_cons_zero, List.set_cons_succ])
      have hSw : (fun _ : World => True) W15 := trivial
      refine wpAnyH_take (i := 12) (v := .pointer (some ⟨xb, 5, none⟩)) rfl (by kernel_rfl) (by kernel_rfl) (by kernel_rfl) (fun _ _ _ h => hp _ _ _ _ _ h) (Or.inl ⟨by rfl, ?_⟩) (by assumption) ?_
      · intro w hSw
        (try dsimp only at hSw)
        go_simp
      (try simp only [Act.put, List.getElem_toArray, List.getElem_cons_zero, List.getElem_cons_succ, List.setIfInBounds_toArray, List.set_cons_zero, List.set_cons_succ])
      obtain ⟨hvc, hvf⟩ := HV.out _ hB1
      rw [show k + (n - (k + 1)) = n - 1 by omega] at hown2
      obtain ⟨a9, c9, rfl, _, _, _⟩ := own_lies hown2
      refine wpAnyH_ready (rs := [13]) (by kernel_rfl) (by simp) ?_
      refine AllReadyH.cons rfl (fun K hK => ?_) AllReadyH.nil
      go_simp
      refine hK.out _ _ trivial (fun _ => ?_)
      refine wpAnyH_done (by kernel_rfl) ?_ _
      exact h _ _ _ _ _ _ _ _ _ _ _ _ _ _ hB1 hown2
  · skip
    obtain ⟨hcl, _⟩ := HV.out _ hB0
    go_simp
    refine hK.out _ _ trivial (fun _ => ?_)
    clear hK K hcl
    (try simp only [Act.put, List.getElem_toArray, List.getElem_cons_zero, List.getElem_cons_succ, List.setIfInBounds_toArray, List.set_cons_zero, List.set_cons_succ])
    have hSw : (fun _ : World => True) Wd := trivial
    have hk1 : (0 : Int) ≤ (k : Int) + 1 := by omega
    have hk2 : (k : Int) + 1 ≤ (n : Int) := by omega
    have hk3 : ((k : Int) + 1).toNat = k + 1 := by omega
    refine wpAnyH_take (i := 10) (v := .slice (if nc = k + 1 then na else na.map (fun x => x.add (k + 1))) (n - (k + 1)) (nc - (k + 1))) rfl (by kernel_rfl) (by kernel_rfl) (by kernel_rfl) (fun _ _ _ h => hp _ _ _ _ _ h) (Or.inl ⟨by rfl, ?_⟩) (by assumption) ?_
    · intro w hSw
      (try dsimp only at hSw)
      (go_simp <;> first | done | omega | (simp [sliced, hk3]; done) | (simp [sliced, hk3]; omega))
    (try simp only [Act.put, List.getElem_toArray, List.getElem_cons_zero, List.getElem_cons_succ, List.setIfInBounds_toArray, List.set_cons_zero, List.set_cons_succ])
    clear hSw hk1 hk2 hk3
    refine wpAnyH_ready (rs := [0, 2]) (by kernel_rfl) (by simp) ?_
    refine AllReadyH.cons rfl (fun K hK => ?_) (AllReadyH.cons rfl (fun K hK => ?_) AllReadyH.nil)
    · skip
      go_simp
      have hown := own_nothing Wd W.heap.size 1 9 hB0.size
      have hB1 := hB0.alloc hB0.size (.cells #[] 9)
      refine hK.out _ _ trivial (fun _ => ?_)
      clear hK K hB0
      have hB0 := hB1
      clear hB1
      obtain ⟨g0, hg0⟩ : ∃ g, Wd.heap.size = g := ⟨_, rfl⟩
      rw [hg0] at hown ⊢
      obtain ⟨vo, hvo⟩ : ∃ vo, vo = Value.slice (some ⟨g0, 0, none⟩) 0 0 := ⟨_, rfl⟩
      rw [← hvo] at hown ⊢
      clear hvo
      generalize Wd.alloc (.cells #[] 9) = W16 at *
      clear hg0
      refine wpAnyH_ready (rs := [2]) (by kernel_rfl) (by simp) ?_
      refine AllReadyH.cons rfl (fun K hK => ?_) AllReadyH.nil
      obtain ⟨hcl, _⟩ := HV.out _ hB0
      go_simp
      refine hK.out _ _ trivial (fun _ => ?_)
      clear hK K hcl
      (try simp only [Act.put, List.getElem_toArray, List.getElem_cons_zero, List.getElem_cons_succ, List.setIfInBounds_toArray, List.set_cons_zero, List.set_cons_succ])
      have hSw : (fun _ : World => True) W16 := trivial
      refine wpAnyH_take (i := 4) (v := .slice na k nc) rfl (by kernel_rfl) (by kernel_rfl) (by kernel_rfl) (fun _ _ _ h => hp _ _ _ _ _ h) (Or.inl ⟨by rfl, ?_⟩) (by assumption) ?_
      · intro w hSw
        (try dsimp only at hSw)
        (go_simp <;> first | done | omega | (simp [sliced]; omega) | simp [sliced])
      (try simp only [Act.put, List.getElem_toArray, List.getElem_cons_zero, List.getElem_cons_succ, List.setIfInBounds_toArray, List.set_cons_zero, List.set_cons_succ])
      clear hSw
      refine wpAnyH_ready (rs := [5]) (by kernel_rfl) (by simp) ?_
      refine AllReadyH.cons rfl (fun K hK => ?_) AllReadyH.nil
      refine wp_append_lie W16 _ _ 26 rfl W.heap.size 9 i0 _ 1 16 Try.underlying26 hi hz0 hz1 hz2 rfl (by decide) vo 0 [] rfl hown na k nc (L.take (k * 1)) rfl HL.out.1 (HT.out _ hB0) H1.out.1 (by unfold maxLen; omega) (by omega) hB0.size ?_
      intro vo2 W17 hown2 hgr _
      have hB1 := below_grown hB0 hown hgr hB0.size
      refine hK.out _ _ trivial (fun _ => ?_)
      clear hK K hB0 hown hgr
      have hB0 := hB1
      clear hB1
      have hown := hown2
      clear hown2
      (try simp only [Act.put, List.getElem_toArray, List.getElem_cons_zero, List.getElem_cons_succ, List.setIfInBounds_toArray, List.set_cons_zero, List.set_cons_succ])
      rw [List.nil_append, Nat.zero_add] at hown
      refine wpAnyH_ready (rs := [11]) (by kernel_rfl) (by simp) ?_
      refine AllReadyH.cons rfl (fun K hK => ?_) AllReadyH.nil
      refine wp_append_lie W17 _ _ 26 rfl W.heap.size 9 i0 _ 1 16 Try.underlying26 hi hz0 hz1 hz2 rfl (by decide) vo2 k (L.take (k * 1)) rfl hown (if nc = k + 1 then na else na.map (fun x => x.add (k + 1))) (n - (k + 1)) (nc - (k + 1)) (L.drop ((k + 1) * 1)) rfl HL.out.2 (HD.out _ hB0) H1.out.2 (by unfold maxLen; omega) (by omega) hB0.size ?_
      intro v' W18 hown2 hgr _
      have hB1 := below_grown hB0 hown hgr hB0.size
      refine hK.out _ _ trivial (fun _ => ?_)
      clear hK K hB0 hown hgr
      (try simp only [Act.put, List.getElem_toArray, List.getElem_cons_zero, List.getElem_cons_succ, List.setIfInBounds_toArray, List.set_cons_zero, List.set_cons_succ])
      have hSw : (fun _ : World => True) W18 := trivial
      refine wpAnyH_take (i := 12) (v := .pointer (some ⟨xb, 5, none⟩)) rfl (by kernel_rfl) (by kernel_rfl) (by kernel_rfl) (fun _ _ _ h => hp _ _ _ _ _ h) (Or.inl ⟨by rfl, ?_⟩) (by assumption) ?_
      · intro w hSw
        (try dsimp only at hSw)
        go_simp
      (try simp only [Act.put, List.getElem_toArray, List.getElem_cons_zero, List.getElem_cons_succ, List.setIfInBounds_toArray, List.set_cons_zero, List.set_cons_succ])
      obtain ⟨hvc, hvf⟩ := HV.out _ hB1
      rw [show k + (n - (k + 1)) = n - 1 by omega] at hown2
      obtain ⟨a9, c9, rfl, _, _, _⟩ := own_lies hown2
      refine wpAnyH_ready (rs := [13]) (by kernel_rfl) (by simp) ?_
      refine AllReadyH.cons rfl (fun K hK => ?_) AllReadyH.nil
      go_simp
      refine hK.out _ _ trivial (fun _ => ?_)
      refine wpAnyH_done (by kernel_rfl) ?_ _
      exact h _ _ _ _ _ _ _ _ _ _ _ _ _ _ hB1 hown2
    · skip
      obtain ⟨hcl, _⟩ := HV.out _ hB0
      go_simp
      refine hK.out _ _ trivial (fun _ => ?_)
      clear hK K hcl
      (try simp only [Act.put, List.getElem_toArray, List.getElem_cons_zero, List.getElem_cons_succ, List.setIfInBounds_toArray, List.set_cons_zero, List.set_cons_succ])
      have hSw : (fun _ : World => True) Wd := trivial
      refine wpAnyH_take (i := 4) (v := .slice na k nc) rfl (by kernel_rfl) (by kernel_rfl) (by kernel_rfl) (fun _ _ _ h => hp _ _ _ _ _ h) (Or.inl ⟨by rfl, ?_⟩) (by assumption) ?_
      · intro w hSw
        (try dsimp only at hSw)
        (go_simp <;> first | done | omega | (simp [sliced]; omega) | simp [sliced])
      (try simp only [Act.put, List.getElem_toArray, List.getElem_cons_zero, List.getElem_cons_succ, List.setIfInBounds_toArray, List.set_cons_zero, List.set_cons_succ])
      clear hSw
      refine wpAnyH_ready (rs := [0]) (by kernel_rfl) (by simp) ?_
      refine AllReadyH.cons rfl (fun K hK => ?_) AllReadyH.nil
      go_simp
      have hown := own_nothing Wd W.heap.size 1 9 hB0.size
      have hB1 := hB0.alloc hB0.size (.cells #[] 9)
      refine hK.out _ _ trivial (fun _ => ?_)
      clear hK K hB0
      have hB0 := hB1
      clear hB1
      obtain ⟨g0, hg0⟩ : ∃ g, Wd.heap.size = g := ⟨_, rfl⟩
      rw [hg0] at hown ⊢
      obtain ⟨vo, hvo⟩ : ∃ vo, vo = Value.slice (some ⟨g0, 0, none⟩) 0 0 := ⟨_, rfl⟩
      rw [← hvo] at hown ⊢
      clear hvo
      generalize Wd.alloc (.cells #[] 9) = W19 at *
      clear hg0
      refine wpAnyH_ready (rs := [5]) (by kernel_rfl) (by simp) ?_
      refine AllReadyH.cons rfl (fun K hK => ?_) AllReadyH.nil
      refine wp_append_lie W19 _ _ 26 rfl W.heap.size 9 i0 _ 1 16 Try.underlying26 hi hz0 hz1 hz2 rfl (by decide) vo 0 [] rfl hown na k nc (L.take (k * 1)) rfl HL.out.1 (HT.out _ hB0) H1.out.1 (by unfold maxLen; omega) (by omega) hB0.size ?_
      intro vo2 W20 hown2 hgr _
      have hB1 := below_grown hB0 hown hgr hB0.size
      refine hK.out _ _ trivial (fun _ => ?_)
      clear hK K hB0 hown hgr
      have hB0 := hB1
      clear hB1
      have hown := hown2
      clear hown2
      (try simp only [Act.put, List.getElem_toArray, List.getElem_cons_zero, List.getElem_cons_succ, List.setIfInBounds_toArray, List.set_cons_zero, List.set_cons_succ])
      rw [List.nil_append, Nat.zero_add] at hown
      refine wpAnyH_ready (rs := [11]) (by kernel_rfl) (by simp) ?_
      refine AllReadyH.cons rfl (fun K hK => ?_) AllReadyH.nil
      refine wp_append_lie W20 _ _ 26 rfl W.heap.size 9 i0 _ 1 16 Try.underlying26 hi hz0 hz1 hz2 rfl (by decide) vo2 k (L.take (k * 1)) rfl hown (if nc = k + 1 then na else na.map (fun x => x.add (k + 1))) (n - (k + 1)) (nc - (k + 1)) (L.drop ((k + 1) * 1)) rfl HL.out.2 (HD.out _ hB0) H1.out.2 (by unfold maxLen; omega) (by omega) hB0.size ?_
      intro v' W21 hown2 hgr _
      have hB1 := below_grown hB0 hown hgr hB0.size
      refine hK.out _ _ trivial (fun _ => ?_)
      clear hK K hB0 hown hgr
      (try simp only [Act.put, List.getElem_toArray, List.getElem_cons_zero, List.getElem_cons_succ, List.setIfInBounds_toArray, List.set_cons_zero, List.set_cons_succ])
      have hSw : (fun _ : World => True) W21 := trivial
      refine wpAnyH_take (i := 12) (v := .pointer (some ⟨xb, 5, none⟩)) rfl (by kernel_rfl) (by kernel_rfl) (by kernel_rfl) (fun _ _ _ h => hp _ _ _ _ _ h) (Or.inl ⟨by rfl, ?_⟩) (by assumption) ?_
      · intro w hSw
        (try dsimp only at hSw)
        go_simp
      (try simp only [Act.put, List.getElem_toArray, List.getElem_cons_zero, List.getElem_cons_succ, List.setIfInBounds_toArray, List.set_cons_zero, List.set_cons_succ])
      obtain ⟨hvc, hvf⟩ := HV.out _ hB1
      rw [show k + (n - (k + 1)) = n - 1 by omega] at hown2
      obtain ⟨a9, c9, rfl, _, _, _⟩ := own_lies hown2
      refine wpAnyH_ready (rs := [13]) (by kernel_rfl) (by simp) ?_
      refine AllReadyH.cons rfl (fun K hK => ?_) AllReadyH.nil
      go_simp
      refine hK.out _ _ trivial (fun _ => ?_)
      refine wpAnyH_done (by kernel_rfl) ?_ _
      exact h _ _ _ _ _ _ _ _ _ _ _ _ _ _ hB1 hown2
end Go.Proofs.Ytalncebnahlmdaa
