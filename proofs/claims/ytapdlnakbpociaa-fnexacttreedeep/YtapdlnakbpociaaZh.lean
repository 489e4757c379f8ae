/- How many trees a tree has, by the program: the region of a round that puts a list's extent into the map. -/
import Derived.Test.YtapdlnakbpociaaZg
namespace Go.Proofs.Ytapdlnakbpociaa
open Go.RowKit
abbrev HeldE (kb mb A x y : Nat) (w : World) : Prop := w.cell? ⟨kb, 0, none⟩ = some (.map (some mb)) ∧ w.cell? ⟨A, 0, none⟩ = some (.int .i64 x) ∧ w.cell? ⟨A, 1, none⟩ = some (.int .i64 y)
theorem HeldE.grown {kb mb A x y : Nat} {w w' : World} (h : HeldE kb mb A x y w) {r : Option Nat} (hg : w.grownBy w' r) (h1 : some kb ≠ r) (h2 : some A ≠ r) : HeldE kb mb A x y w' := by
  have hk := World.block_lt_of_cell? _ _ h.1
  have ha := World.block_lt_of_cell? _ _ h.2.1
  exact ⟨(grown_cell hg 0 hk h1).trans h.1, (grown_cell hg 0 ha h2).trans h.2.1, (grown_cell hg 1 ha h2).trans h.2.2⟩
set_option maxRecDepth 100000 in
set_option maxHeartbeats 1000000 in
theorem ex14 {Q : Exit → Act → World → Prop} {l n : Nat} {t0 t1 t2 t6 t7 t8 t9 t10 t11 t12 t13 t14 t15 t16 t17 t18 t19 t20 t21 t22 t23 t24 t25 t26 t27 t28 t29 t30 t31 t32 t33 t34 t35 t36 t37 t38 t39 t40 t41 t42 t43 t44 t45 t46 t47 t48 t49 t50 t51 t52 t53 t54 t55 t56 t57 t58 t59 t60 t61 t62 t63 t64 : Value} {W : World} {kb mb A m c x y : Nat} {a : Option Addr} {L : List (Pl × Value)}
    (hE : HeldE kb mb A x y W) (hm : plKeys.Is W mb L) (hok : PlOk W (plOf a m)) (hoks : ∀ q ∈ L, PlOk W q.1) (ha : m = 0 ∨ ∃ b o, a = some ⟨b, o, none⟩) (hml : m ≤ 2000000) (hk : kb ≠ mb) (hA : A ≠ mb)
    (hp : ∀ p d v a w, Q (.panic p) (Act.put a d v) w → Q (.panic p) a w) (h : ∀ ws v48 v49 v50 v51, plKeys.Is ws mb (putL (plOf a m) (.agg #[.int .i64 x, .int .i64 y]) L) → W.grownBy ws (some mb) → Q .normal { tmps := (t0 :: t1 :: t2 :: (.pointer (some ⟨kb, 0, none⟩)) :: (.slice a m c) :: (.pointer (some ⟨A, 0, none⟩)) :: t6 :: t7 :: t8 :: t9 :: t10 :: t11 :: t12 :: t13 :: t14 :: t15 :: t16 :: t17 :: t18 :: t19 :: t20 :: t21 :: t22 :: t23 :: t24 :: t25 :: t26 :: t27 :: t28 :: t29 :: t30 :: t31 :: t32 :: t33 :: t34 :: t35 :: t36 :: t37 :: t38 :: t39 :: t40 :: t41 :: t42 :: t43 :: t44 :: t45 :: t46 :: t47 :: v48 :: v49 :: v50 :: v51 :: t52 :: t53 :: t54 :: t55 :: t56 :: t57 :: t58 :: t59 :: t60 :: t61 :: t62 :: t63 :: t64 :: []).toArray, defers := [] } ws) :
    Code.wpIn (Fence.wide.inRound l) n Try.prog (Code.region 14 #[{ dst := some 48, op := Op.load 73 (Operand.tmp 3), type := 73, pos := "l3_tree.go:305", after := #[], guard := none }, { dst := some 49, op := Op.move (Operand.tmp 4), type := 30, pos := "l3_tree.go:305", after := #[], guard := none }, { dst := some 50, op := Op.call { callee := Callee.value (Operand.func 49), args := #[Operand.tmp 49], argTypes := #[30] }, type := 80, pos := "l3_tree.go:305", after := #[{ on := 1, ground := Ground.data }], guard := none }, { dst := some 51, op := Op.load 49 (Operand.tmp 5), type := 49, pos := "l3_tree.go:305", after := #[], guard := none }, { dst := none, op := Op.mapUpdate 73 (Operand.tmp 48) (Operand.tmp 50) (Operand.tmp 51), type := 0, pos := "l3_tree.go:305", after := #[{ on := 0, ground := Ground.data }, { on := 2, ground := Ground.data }, { on := 3, ground := Ground.data }, { on := 2, ground := Ground.chain }, { on := 0, ground := Ground.phase }, { on := 1, ground := Ground.phase }, { on := 2, ground := Ground.phase }, { on := 3, ground := Ground.phase }], guard := none }] true) Q { tmps := (t0 :: t1 :: t2 :: (.pointer (some ⟨kb, 0, none⟩)) :: (.slice a m c) :: (.pointer (some ⟨A, 0, none⟩)) :: t6 :: t7 :: t8 :: t9 :: t10 :: t11 :: t12 :: t13 :: t14 :: t15 :: t16 :: t17 :: t18 :: t19 :: t20 :: t21 :: t22 :: t23 :: t24 :: t25 :: t26 :: t27 :: t28 :: t29 :: t30 :: t31 :: t32 :: t33 :: t34 :: t35 :: t36 :: t37 :: t38 :: t39 :: t40 :: t41 :: t42 :: t43 :: t44 :: t45 :: t46 :: t47 :: t48 :: t49 :: t50 :: t51 :: t52 :: t53 :: t54 :: t55 :: t56 :: t57 :: t58 :: t59 :: t60 :: t61 :: t62 :: t63 :: t64 :: []).toArray, defers := [] } W := by
  have hB0 := (Below.refl W.heap.size W).drew
  have hE0 : HeldE kb mb A x y W.drew := hE
  have HSof : Hid (∀ w', Below W.heap.size W w' → HeldE kb mb A x y w') := fun w' h => hE.grown (grown_below h) (fun e => by cases e) (fun e => by cases e)
  have hmlt : mb < W.heap.size := by obtain ⟨es, clock, h, _⟩ := hm; exact (Array.getElem?_eq_some_iff.1 h).1
  refine wpIn_region_round2 (S := fun w' => HeldE kb mb A x y w') (by kernel_rfl) (by kernel_rfl) hE0 (fun hHeld => ?_)
  clear hE hE0
  refine wpAnyH_take (i := 0) (v := .map (some mb)) rfl (by kernel_rfl) (by kernel_rfl) (by kernel_rfl) (fun _ _ _ h => ⟨h.1, hp _ _ _ _ _ h.2⟩) (Or.inl ⟨by rfl, ?_⟩) (by assumption) ?_
  · intro w hSw
    (try dsimp only at hSw)
    go_simp
  (try simp only [Act.put, List.getElem_toArray, List.getElem_cons_zero, List.setIfInBounds_toArray, List.set_cons_zero, List.set_cons_succ])
  refine wpAnyH_take (i := 1) (v := .slice a m c) rfl (by kernel_rfl) (by kernel_rfl) (by kernel_rfl) (fun _ _ _ h => ⟨h.1, hp _ _ _ _ _ h.2⟩) (Or.inl ⟨by rfl, ?_⟩) (by assumption) ?_
  · intro w hSw
    (try dsimp only at hSw)
    go_simp
  (try simp only [Act.put, List.getElem_toArray, List.getElem_cons_zero, List.getElem_cons_succ, List.setIfInBounds_toArray, List.set_cons_zero, List.set_cons_succ])
  refine wpAnyH_take (i := 3) (v := (.agg #[.int .i64 x, .int .i64 y])) rfl (by kernel_rfl) (by kernel_rfl) (by kernel_rfl) (fun _ _ _ h => ⟨h.1, hp _ _ _ _ _ h.2⟩) (Or.inl ⟨by rfl, ?_⟩) (by assumption) ?_
  · intro w hSw
    (try dsimp only at hSw)
    go_simp
  (try simp only [Act.put, List.getElem_toArray, List.getElem_cons_zero, List.getElem_cons_succ, List.setIfInBounds_toArray, List.set_cons_zero, List.set_cons_succ])
  refine wpAnyH_ready (rs := [2]) (by kernel_rfl) (by simp) ?_
  refine (AllReadyH.cons rfl (fun K hK => ?_) AllReadyH.nil)
  · go_simp
    refine (placeOf_any a m c _ ha hml).mono ?_
    rintro r w1 ⟨rfl, hb1⟩
    have hB1 := hB0.trans (hb1.mono hB0.size)
    have hS1 := HSof.out _ hB1
    obtain ⟨ws, hput, hmS, hgr, hszs⟩ := plKeys.put (mty := 73) (et := 49) Try.underlying73 (plOf a m) (.agg #[.int .i64 x, .int .i64 y]) (hok.below hB1) (fun q hq => (hoks q hq).below hB1) (hm.grown _ (hB1.block _ hmlt))
    have hput' : (Instr.mapUpdate 73 (.map (some mb)) (.agg #[.pointer (plOf a m).1, .int .i64 (plOf a m).2]) (.agg #[.int .i64 x, .int .i64 y])).run Try.prog w1 = .ok () ws := hput
    have HMS : Hid (plKeys.Is ws mb (putL (plOf a m) (.agg #[.int .i64 x, .int .i64 y]) L)) := hmS
    have HG : Hid (W.grownBy ws (some mb)) := grown_trans ⟨hB1.os, hB1.tape, hB1.output, hB1.size, fun k hk _ => hB1.block k hk⟩ hgr
    have hSs : HeldE kb mb A x y ws := hS1.grown hgr (fun e => hk (Option.some.inj e)) (fun e => hA (Option.some.inj e))
    have HS1 : Hid (HeldE kb mb A x y w1) := hS1
    have HSs : Hid (HeldE kb mb A x y ws) := hSs
    clear hput hmS hgr hszs hok hoks hm hS1 hSs
    go_wp2_with fail
    refine hK.out _ _ HS1.out (fun hHeld => ?_)
    clear hK K
    unfold plV
    refine wpAnyH_ready (rs := [4]) (by kernel_rfl) (by simp) ?_
    refine (AllReadyH.cons rfl (fun K hK => ?_) AllReadyH.nil)
    · go_simp
      refine hK.out _ _ HSs.out (fun hHeld => ?_)
      clear hK K
      refine wpAnyH_done (by kernel_rfl) ?_ _
      exact ⟨(fun e => by cases e), h _ _ _ _ _ HMS.out HG.out⟩
end Go.Proofs.Ytapdlnakbpociaa
