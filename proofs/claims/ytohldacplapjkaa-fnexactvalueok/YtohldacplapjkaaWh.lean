/- Two values that are the same, by the program: the region that counts a pair of lists. -/
import Derived.Test.YtohldacplapjkaaWg
import Derived.Test.YtohldacplapjkaaSh
import Derived.Deep.RegionHeld3
namespace Go.Proofs.Ytohldacplapjkaa
open Go.RowKit
theorem ok2_grownV {w w' : World} {p : Pl2} {mb : Nat} {L : List (Pl2 × Value)} (h : pl2KeysV.ok w p) (hg : w.grownBy w' (some mb)) (hm : pl2KeysV.Has w mb L) : pl2KeysV.ok w' p := by
  obtain ⟨es, clock, hh, _⟩ := hm
  exact ⟨h.1.grown hg hh, h.2.grown hg hh⟩
theorem stamp_isV {w : World} {b : Nat} {x : Pl2} {s : Nat} {L : List (Pl2 × Value)} (h : pl2KeysV.Stamp w b x s L) : pl2KeysV.Is w b L := by
  obtain ⟨es, clock, n, e, h1, h2, _⟩ := h
  exact ⟨es, clock, h1, h2⟩
set_option maxRecDepth 100000 in
set_option maxHeartbeats 1000000 in
theorem sa9V {Q : Exit → Act → World → Prop} {t0 t1 t2 t3 t4 t6 t7 t9 t10 t11 t12 t13 t14 t15 t16 t17 t18 t19 t20 t21 t22 t23 t24 t25 t26 t27 t28 t29 t30 t31 t32 t33 t34 t35 t36 t37 t38 t39 t40 t41 t42 t43 t44 t45 t46 t47 t48 t49 t50 t51 t52 t53 t54 t55 t56 t57 t58 t59 t60 t61 t62 t63 t64 t65 t66 : Value} {W : World} {mb B : Nat} {K : Pl2} {L : List (Pl2 × Value)} {n0 : Nat}
    (hm : pl2KeysV.Has W mb L) (hok : pl2KeysV.ok W K) (hoks : ∀ q ∈ L, pl2KeysV.ok W q.1) (hg0 : (getL K L).getD (.int .i64 0) = .int .i64 n0) (hn0 : n0 ≤ 2000000) (f : FourC B (.pointer K.1.1) (.int .i64 K.1.2) (.pointer K.2.1) (.int .i64 K.2.2) W) (hne : B ≠ mb)
    (hp : ∀ p d v a w, Q (.panic p) (Act.put a d v) w → Q (.panic p) a w) (h : ∀ ws v46 v47 v48 v49 v50 v51, pl2KeysV.Has ws mb (putL K (.int .i64 ((n0 : Int) + 1)) L) → W.grownBy ws (some mb) → ws.heap.size = W.heap.size → Q .normal { tmps := (t0 :: t1 :: t2 :: t3 :: t4 :: .map (some mb) :: t6 :: t7 :: .pointer (some ⟨B, 0, none⟩) :: t9 :: t10 :: t11 :: t12 :: t13 :: t14 :: t15 :: t16 :: t17 :: t18 :: t19 :: t20 :: t21 :: t22 :: t23 :: t24 :: t25 :: t26 :: t27 :: t28 :: t29 :: t30 :: t31 :: t32 :: t33 :: t34 :: t35 :: t36 :: t37 :: t38 :: t39 :: t40 :: t41 :: t42 :: t43 :: t44 :: t45 :: v46 :: v47 :: v48 :: v49 :: v50 :: v51 :: t52 :: t53 :: t54 :: t55 :: t56 :: t57 :: t58 :: t59 :: t60 :: t61 :: t62 :: t63 :: t64 :: t65 :: t66 :: []).toArray, defers := [] } ws) :
    Code.wp Try.prog (Code.region 9 #[{ dst := some 46, op := Op.move (Operand.tmp 5), type := 60, pos := "l3_tree.go:384", after := #[], guard := none }, { dst := some 47, op := Op.load 70 (Operand.tmp 8), type := 70, pos := "l3_tree.go:384", after := #[], guard := none }, { dst := some 48, op := Op.lookup 60 (Operand.tmp 46) (Operand.tmp 47) false, type := 3, pos := "l3_tree.go:384", after := #[{ on := 0, ground := Ground.data }, { on := 1, ground := Ground.data }], guard := none }, { dst := some 49, op := Op.binOp BinOp.add 3 (Operand.tmp 48) (Operand.const (Value.int IntKind.i64 1)) 3, type := 3, pos := "l3_tree.go:384", after := #[{ on := 2, ground := Ground.data }], guard := none }, { dst := some 50, op := Op.mapEntry 60 (Operand.tmp 46) (Operand.tmp 47), type := 0, pos := "l3_tree.go:384", after := #[{ on := 0, ground := Ground.data }, { on := 1, ground := Ground.data }, { on := 0, ground := Ground.phase }, { on := 1, ground := Ground.phase }, { on := 2, ground := Ground.textOnly Departure.mapOpAssignEntry }, { on := 3, ground := Ground.textOnly Departure.mapOpAssignEntry }], guard := none }, { dst := some 51, op := Op.extract (Operand.tmp 50) 1, type := 3, pos := "l3_tree.go:384", after := #[{ on := 4, ground := Ground.data }], guard := none }, { dst := none, op := Op.entryStore 60 (Operand.tmp 46) (Operand.tmp 51) (Operand.tmp 49), type := 0, pos := "l3_tree.go:384", after := #[{ on := 0, ground := Ground.data }, { on := 5, ground := Ground.data }, { on := 3, ground := Ground.data }, { on := 4, ground := Ground.chain }, { on := 0, ground := Ground.phase }, { on := 1, ground := Ground.phase }, { on := 2, ground := Ground.phase }, { on := 3, ground := Ground.phase }, { on := 4, ground := Ground.phase }, { on := 5, ground := Ground.phase }], guard := none }] true) Q { tmps := (t0 :: t1 :: t2 :: t3 :: t4 :: .map (some mb) :: t6 :: t7 :: .pointer (some ⟨B, 0, none⟩) :: t9 :: t10 :: t11 :: t12 :: t13 :: t14 :: t15 :: t16 :: t17 :: t18 :: t19 :: t20 :: t21 :: t22 :: t23 :: t24 :: t25 :: t26 :: t27 :: t28 :: t29 :: t30 :: t31 :: t32 :: t33 :: t34 :: t35 :: t36 :: t37 :: t38 :: t39 :: t40 :: t41 :: t42 :: t43 :: t44 :: t45 :: t46 :: t47 :: t48 :: t49 :: t50 :: t51 :: t52 :: t53 :: t54 :: t55 :: t56 :: t57 :: t58 :: t59 :: t60 :: t61 :: t62 :: t63 :: t64 :: t65 :: t66 :: []).toArray, defers := [] } W := by
  have hne' : some B ≠ some mb := fun e => hne (Option.some.inj e)
  have hz : ∀ w, (zeroValue 3).run Try.prog w = .ok (.int .i64 0) w := fun w => by kernel_rfl
  have hmD : pl2KeysV.Has W.drew mb L := hm.same _ rfl
  have hokD : pl2KeysV.ok W.drew K := hok
  have hoksD : ∀ q ∈ L, pl2KeysV.ok W.drew q.1 := hoks
  have fD : FourC B (.pointer K.1.1) (.int .i64 K.1.2) (.pointer K.2.1) (.int .i64 K.2.2) W.drew := f
  have hgD : W.grownBy W.drew (some mb) := ⟨rfl, rfl, rfl, Nat.le_refl _, fun _ _ _ => rfl⟩
  have hszD : W.drew.heap.size = W.heap.size := rfl
  clear hm hok hoks f
  refine wp_region_held_drew (S := fun w' => FourC B (.pointer K.1.1) (.int .i64 K.1.2) (.pointer K.2.1) (.int .i64 K.2.2) w') (by kernel_rfl) fD (fun hHeld => ?_)
  generalize W.drew = W9 at *
  have hl0 := pl2KeysV.look (mty := 60) (et := 3) Try.underlying60 K hokD hoksD hmD.is (hz W9)
  rw [hg0] at hl0
  have hlook : (Instr.lookup 60 (.map (some mb)) (.agg #[.pointer K.1.1, .int .i64 K.1.2, .pointer K.2.1, .int .i64 K.2.2]) false).run Try.prog W9 = .ok (.int .i64 n0) W9 := hl0
  obtain ⟨wm, st, hent0, hstp, hgr, hszm⟩ := pl2KeysV.entry (mty := 60) (et := 3) Try.underlying60 K hokD hoksD hmD (z := .int .i64 0) (hz _)
  rw [hg0] at hent0 hstp
  have hent : (Instr.mapEntry 60 (.map (some mb)) (.agg #[.pointer K.1.1, .int .i64 K.1.2, .pointer K.2.1, .int .i64 K.2.2])).run Try.prog W9 = .ok (.tuple #[.int .i64 n0, .int .i64 (st : Nat)]) wm := hent0
  have hkm : pl2KeysV.ok wm K := ok2_grownV hokD hgr hmD
  have hksm : ∀ q ∈ putL K (.int .i64 n0) L, pl2KeysV.ok wm q.1 := fun q hq => by
    rcases putL_keys K _ L q hq with e | hq
    · rw [e]; exact hkm
    · exact ok2_grownV (hoksD q hq) hgr hmD
  have hk0 := pl2KeysV.look (mty := 60) (et := 3) Try.underlying60 K hkm hksm (stamp_isV hstp) (hz wm)
  rw [getL_put, if_pos rfl] at hk0
  have hlookm : (Instr.lookup 60 (.map (some mb)) (.agg #[.pointer K.1.1, .int .i64 K.1.2, .pointer K.2.1, .int .i64 K.2.2]) false).run Try.prog wm = .ok (.int .i64 n0) wm := hk0
  obtain ⟨ws, hsto, hmS, hgrs, hszs⟩ := pl2KeysV.store (mty := 60) hstp (.int .i64 ((n0 : Int) + 1))
  rw [putL_putL] at hmS
  have fm : FourC B (.pointer K.1.1) (.int .i64 K.1.2) (.pointer K.2.1) (.int .i64 K.2.2) wm := FourC.grown hgr hne' hHeld
  have fs : FourC B (.pointer K.1.1) (.int .i64 K.1.2) (.pointer K.2.1) (.int .i64 K.2.2) ws := FourC.grown hgrs hne' fm
  have HG : Hid (W.grownBy ws (some mb)) := grown_trans hgD (grown_trans hgr hgrs)
  have HZ : Hid (ws.heap.size = W.heap.size) := hszs.trans (hszm.trans hszD)
  have HMS : Hid (pl2KeysV.Has ws mb (putL K (.int .i64 ((n0 : Int) + 1)) L)) := hmS
  have HF : Hid (FourC B (.pointer K.1.1) (.int .i64 K.1.2) (.pointer K.2.1) (.int .i64 K.2.2) W9) := hHeld
  have HFm : Hid (FourC B (.pointer K.1.1) (.int .i64 K.1.2) (.pointer K.2.1) (.int .i64 K.2.2) wm) := fm
  have HFs : Hid (FourC B (.pointer K.1.1) (.int .i64 K.1.2) (.pointer K.2.1) (.int .i64 K.2.2) ws) := fs
  clear hl0 hent0 hk0 hstp hkm hksm hmS hgD hszD hgr hgrs hszm hszs fm fs hokD hoksD hmD fD hz hg0
  refine wpAnyH_take (i := 0) (v := .map (some mb)) rfl (by kernel_rfl) (by kernel_rfl) (by kernel_rfl) (fun _ _ _ h => hp _ _ _ _ _ h) (Or.inl ⟨by rfl, ?_⟩) (by assumption) ?_
  · intro w hSw
    (try dsimp only at hSw)
    go_simp
  (try simp only [Act.put, List.getElem_toArray, List.getElem_cons_zero, List.setIfInBounds_toArray, List.set_cons_zero, List.set_cons_succ])
  refine wpAnyH_take (i := 1) (v := .agg #[.pointer K.1.1, .int .i64 K.1.2, .pointer K.2.1, .int .i64 K.2.2]) rfl (by kernel_rfl) (by kernel_rfl) (by kernel_rfl) (fun _ _ _ h => hp _ _ _ _ _ h) (Or.inl ⟨by rfl, ?_⟩) (by assumption) ?_
  · intro w hSw
    (try dsimp only at hSw)
    go_simp
  (try simp only [Act.put, List.getElem_toArray, List.getElem_cons_zero, List.getElem_cons_succ, List.setIfInBounds_toArray, List.set_cons_zero, List.set_cons_succ])
  refine wpAnyH_ready (rs := [2, 4]) (by kernel_rfl) (by simp) ?_
  refine AllReadyH.cons rfl (fun K hK => ?_) (AllReadyH.cons rfl (fun K hK => ?_) AllReadyH.nil)
  · go_simp
    refine hK.out _ _ HF.out (fun hHeld2 => ?_)
    clear hK K
    refine wpAnyH_take (i := 3) (v := .int .i64 ((n0 : Int) + 1)) rfl (by kernel_rfl) (by kernel_rfl) (by kernel_rfl) (fun _ _ _ h => hp _ _ _ _ _ h) (Or.inl ⟨by rfl, ?_⟩) (by assumption) ?_
    · intro w hSw
      (try dsimp only at hSw)
      (go_simp; rw [IntKind.wrap_i64]; omega)
    (try simp only [Act.put, List.getElem_toArray, List.getElem_cons_zero, List.getElem_cons_succ, List.setIfInBounds_toArray, List.set_cons_zero, List.set_cons_succ])
    refine wpAnyH_ready (rs := [4]) (by kernel_rfl) (by simp) ?_
    refine AllReadyH.cons rfl (fun K hK => ?_) AllReadyH.nil
    go_simp
    refine hK.out _ _ HFm.out (fun hHeld3 => ?_)
    clear hK K
    refine wpAnyH_take (i := 5) (v := .int .i64 (st : Nat)) rfl (by kernel_rfl) (by kernel_rfl) (by kernel_rfl) (fun _ _ _ h => hp _ _ _ _ _ h) (Or.inl ⟨by rfl, ?_⟩) (by assumption) ?_
    · intro w hSw
      (try dsimp only at hSw)
      go_simp
    (try simp only [Act.put, List.getElem_toArray, List.getElem_cons_zero, List.getElem_cons_succ, List.setIfInBounds_toArray, List.set_cons_zero, List.set_cons_succ])
    refine wpAnyH_ready (rs := [6]) (by kernel_rfl) (by simp) ?_
    refine AllReadyH.cons rfl (fun K hK => ?_) AllReadyH.nil
    go_simp
    refine hK.out _ _ HFs.out (fun hHeld4 => ?_)
    clear hK K
    refine wpAnyH_done (by kernel_rfl) ?_ _
    exact h _ _ _ _ _ _ _ HMS.out HG.out HZ.out
  · go_simp
    refine hK.out _ _ HFm.out (fun hHeld2 => ?_)
    clear hK K
    refine wpAnyH_take (i := 5) (v := .int .i64 (st : Nat)) rfl (by kernel_rfl) (by kernel_rfl) (by kernel_rfl) (fun _ _ _ h => hp _ _ _ _ _ h) (Or.inl ⟨by rfl, ?_⟩) (by assumption) ?_
    · intro w hSw
      (try dsimp only at hSw)
      go_simp
    (try simp only [Act.put, List.getElem_toArray, List.getElem_cons_zero, List.getElem_cons_succ, List.setIfInBounds_toArray, List.set_cons_zero, List.set_cons_succ])
    refine wpAnyH_ready (rs := [2]) (by kernel_rfl) (by simp) ?_
    refine AllReadyH.cons rfl (fun K hK => ?_) AllReadyH.nil
    go_simp
    refine hK.out _ _ HFm.out (fun hHeld3 => ?_)
    clear hK K
    refine wpAnyH_take (i := 3) (v := .int .i64 ((n0 : Int) + 1)) rfl (by kernel_rfl) (by kernel_rfl) (by kernel_rfl) (fun _ _ _ h => hp _ _ _ _ _ h) (Or.inl ⟨by rfl, ?_⟩) (by assumption) ?_
    · intro w hSw
      (try dsimp only at hSw)
      (go_simp; rw [IntKind.wrap_i64]; omega)
    (try simp only [Act.put, List.getElem_toArray, List.getElem_cons_zero, List.getElem_cons_succ, List.setIfInBounds_toArray, List.set_cons_zero, List.set_cons_succ])
    refine wpAnyH_ready (rs := [6]) (by kernel_rfl) (by simp) ?_
    refine AllReadyH.cons rfl (fun K hK => ?_) AllReadyH.nil
    go_simp
    refine hK.out _ _ HFs.out (fun hHeld4 => ?_)
    clear hK K
    refine wpAnyH_done (by kernel_rfl) ?_ _
    exact h _ _ _ _ _ _ _ HMS.out HG.out HZ.out
end Go.Proofs.Ytohldacplapjkaa
