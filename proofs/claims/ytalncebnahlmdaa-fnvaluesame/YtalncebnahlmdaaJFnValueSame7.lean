/- My own texts, joined: Wj Wf Vc Wk Xc OkA Xd Xe. -/
import Derived.Test.YtalncebnahlmdaaJFnValueSame6
import Derived.Test.YtalncebnahlmdaaJFnValueSame4
import Derived.Test.YtalncebnahlmdaaJFnValueSame5
import Derived.Test.YtalncebnahlmdaaJFnValueSame0
/- Two values that are the same, by the program: the region that puts the pairs of two lists behind what is to be done. -/
namespace Go.Proofs.Ytalncebnahlmdaa
open Go.RowKit
set_option maxRecDepth 100000 in
set_option maxHeartbeats 2000000 in
theorem sa11V {Q : Exit → Act → World → Prop} {t0 t1 t2 t3 t4 t5 t8 t9 t10 t11 t12 t13 t14 t15 t16 t17 t18 t19 t20 t21 t22 t23 t24 t25 t26 t27 t28 t29 t30 t31 t32 t33 t34 t35 t36 t37 t38 t39 t40 t41 t42 t43 t44 t45 t46 t47 t48 t49 t50 t51 t52 t53 t54 t55 t56 t57 t58 t59 t60 t61 t62 t63 t64 t65 t66 : Value} {W : World} {base pb N n : Nat} {v : Value} {xs : List Value} {xh : Hd} {xa : Option Addr} {xF : Vo} {xc : Nat} {yh : Hd} {ya : Option Addr} {yF : Vo} {yc : Nat}
    (hT : TwoV pb xh (.slice xa N xc) yh (.slice ya N yc) W) (hF : xF.In W xa) (hG : yF.In W ya) (hx : xF.len = N) (hy : yF.len = N) (hN : N ≤ 2000000) (hn : n ≤ 2000000) (hown : W.ownsRow base 90 12 v n xs) (hbase : base ≤ W.heap.size) (hne : some pb ≠ v.ownBlock)
    (hp : ∀ p d v a w, Q (.panic p) (Act.put a d v) w → Q (.panic p) a w) (h : ∀ ws v' v56 v57 v58 v59 v60 v61 v62 v63 v64 v65 v66, ws.ownsRow base 90 12 v' (n + N) (xs ++ pairCellsV xF yF N) → W.grownBy ws v.ownBlock → Q .normal { tmps := (t0 :: t1 :: t2 :: t3 :: t4 :: t5 :: v' :: .pointer (some ⟨pb, 0, none⟩) :: t8 :: t9 :: t10 :: t11 :: t12 :: t13 :: t14 :: t15 :: t16 :: t17 :: t18 :: t19 :: t20 :: t21 :: t22 :: t23 :: t24 :: t25 :: t26 :: t27 :: t28 :: t29 :: t30 :: t31 :: t32 :: t33 :: t34 :: t35 :: t36 :: t37 :: t38 :: t39 :: t40 :: t41 :: t42 :: t43 :: t44 :: t45 :: t46 :: t47 :: t48 :: t49 :: t50 :: t51 :: t52 :: t53 :: t54 :: t55 :: v56 :: v57 :: v58 :: v59 :: v60 :: v61 :: v62 :: v63 :: v64 :: v65 :: v66 :: []).toArray, defers := [] } ws) :
    Code.wp Try.prog (Code.region 11 #[{ dst := some 56, op := Op.move (Operand.tmp 6), type := 91, pos := "l3_tree.go:386", after := #[], guard := none }, { dst := some 57, op := Op.fieldAddr 90 (Operand.tmp 7) 0, type := 0, pos := "l3_tree.go:386", after := #[], guard := none }, { dst := some 58, op := Op.load 28 (Operand.tmp 57), type := 28, pos := "l3_tree.go:386", after := #[{ on := 1, ground := Ground.data }], guard := none }, { dst := some 59, op := Op.makeInterface 28 (Operand.tmp 58), type := 20, pos := "l3_tree.go:386", after := #[{ on := 2, ground := Ground.data }], guard := none }, { dst := some 60, op := Op.call { callee := Callee.invoke (Operand.tmp 59) "loop.example/chancery/impl.below", args := #[], argTypes := #[] }, type := 25, pos := "l3_tree.go:386", after := #[{ on := 3, ground := Ground.data }], guard := none }, { dst := some 61, op := Op.fieldAddr 90 (Operand.tmp 7) 1, type := 0, pos := "l3_tree.go:386", after := #[], guard := none }, { dst := some 62, op := Op.load 28 (Operand.tmp 61), type := 28, pos := "l3_tree.go:386", after := #[{ on := 5, ground := Ground.data }], guard := none }, { dst := some 63, op := Op.makeInterface 28 (Operand.tmp 62), type := 20, pos := "l3_tree.go:386", after := #[{ on := 6, ground := Ground.data }], guard := none }, { dst := some 64, op := Op.call { callee := Callee.invoke (Operand.tmp 63) "loop.example/chancery/impl.below", args := #[], argTypes := #[] }, type := 25, pos := "l3_tree.go:386", after := #[{ on := 7, ground := Ground.data }, { on := 4, ground := Ground.chain }], guard := none }, { dst := some 65, op := Op.call { callee := Callee.value (Operand.func 53), args := #[Operand.tmp 60, Operand.tmp 64], argTypes := #[25, 25] }, type := 91, pos := "l3_tree.go:386", after := #[{ on := 4, ground := Ground.data }, { on := 8, ground := Ground.data }, { on := 8, ground := Ground.chain }], guard := none }, { dst := some 66, op := Op.call { callee := Callee.builtin Builtin.append, args := #[Operand.tmp 56, Operand.tmp 65], argTypes := #[91, 91] }, type := 91, pos := "l3_tree.go:386", after := #[{ on := 0, ground := Ground.data }, { on := 9, ground := Ground.data }, { on := 9, ground := Ground.chain }], guard := none }, { dst := some 6, op := Op.assign (Operand.tmp 66), type := 91, pos := "l3_tree.go:386", after := #[{ on := 10, ground := Ground.data }, { on := 10, ground := Ground.chain }, { on := 0, ground := Ground.phase }, { on := 1, ground := Ground.phase }, { on := 2, ground := Ground.phase }, { on := 3, ground := Ground.phase }, { on := 4, ground := Ground.phase }, { on := 5, ground := Ground.phase }, { on := 6, ground := Ground.phase }, { on := 7, ground := Ground.phase }, { on := 8, ground := Ground.phase }, { on := 9, ground := Ground.phase }, { on := 10, ground := Ground.phase }], guard := none }] true) Q { tmps := (t0 :: t1 :: t2 :: t3 :: t4 :: t5 :: v :: .pointer (some ⟨pb, 0, none⟩) :: t8 :: t9 :: t10 :: t11 :: t12 :: t13 :: t14 :: t15 :: t16 :: t17 :: t18 :: t19 :: t20 :: t21 :: t22 :: t23 :: t24 :: t25 :: t26 :: t27 :: t28 :: t29 :: t30 :: t31 :: t32 :: t33 :: t34 :: t35 :: t36 :: t37 :: t38 :: t39 :: t40 :: t41 :: t42 :: t43 :: t44 :: t45 :: t46 :: t47 :: t48 :: t49 :: t50 :: t51 :: t52 :: t53 :: t54 :: t55 :: t56 :: t57 :: t58 :: t59 :: t60 :: t61 :: t62 :: t63 :: t64 :: t65 :: t66 :: []).toArray, defers := [] } W := by
  subst hx
  have hmeth := belowV_method
  obtain ⟨i0, hi, hz0, hz1, hz2⟩ := info_parts pairInfoV
  have hpl := hT.lt
  have HSof : Hid (∀ w', Below W.heap.size W w' → TwoV pb xh (.slice xa xF.len xc) yh (.slice ya xF.len yc) w') := fun w' h => hT.same (h.block _ hpl)
  have HOwn : Hid (∀ w', Below W.heap.size W w' → w'.ownsRow base 90 12 v n xs) := fun w' h => hown.kept (row := none) ⟨h.os, h.tape, h.output, h.size, fun k hk _ => h.block k hk⟩ (ob_or v)
  have HI : Hid (∀ w', Below W.heap.size W w' → xF.In w' xa ∧ yF.In w' ya) := fun w' h => ⟨hF.grow h, hG.grow h⟩
  have HL : Hid (xF.len = yF.len) := hy.symm
  have hS0 := HSof.out _ ((Below.refl _ W).drew)
  clear hT hF hG hy hown
  refine wp_region_held_drew (S := fun w' => TwoV pb xh (.slice xa xF.len xc) yh (.slice ya xF.len yc) w') (by kernel_rfl) hS0 (fun hHeld => ?_)
  refine wpAnyH_take (i := 0) (v := v) rfl (by kernel_rfl) (by kernel_rfl) (by kernel_rfl) (fun _ _ _ h => hp _ _ _ _ _ h) (Or.inl ⟨by rfl, ?_⟩) (by assumption) ?_
  · intro w hSw
    (try dsimp only at hSw)
    go_simp
  (try simp only [Act.put, List.getElem_toArray, List.getElem_cons_zero, List.setIfInBounds_toArray, List.set_cons_zero, List.set_cons_succ])
  refine wpAnyH_take (i := 1) (v := .pointer (some ⟨pb, 0, none⟩)) rfl (by kernel_rfl) (by kernel_rfl) (by kernel_rfl) (fun _ _ _ h => hp _ _ _ _ _ h) (Or.inl ⟨by rfl, ?_⟩) (by assumption) ?_
  · intro w hSw
    (try dsimp only at hSw)
    go_simp
  (try simp only [Act.put, List.getElem_toArray, List.getElem_cons_zero, List.getElem_cons_succ, List.setIfInBounds_toArray, List.set_cons_zero, List.set_cons_succ])
  refine wpAnyH_take (i := 2) (v := valV xh xa xF.len xc) rfl (by kernel_rfl) (by kernel_rfl) (by kernel_rfl) (fun _ _ _ h => hp _ _ _ _ _ h) (Or.inl ⟨by rfl, ?_⟩) (by assumption) ?_
  · intro w hSw
    (try dsimp only at hSw)
    go_simp
  (try simp only [Act.put, List.getElem_toArray, List.getElem_cons_zero, List.getElem_cons_succ, List.setIfInBounds_toArray, List.set_cons_zero, List.set_cons_succ])
  refine wpAnyH_take (i := 3) (v := .iface 28 (valV xh xa xF.len xc)) rfl (by kernel_rfl) (by kernel_rfl) (by kernel_rfl) (fun _ _ _ h => hp _ _ _ _ _ h) (Or.inl ⟨by rfl, ?_⟩) (by assumption) ?_
  · intro w hSw
    (try dsimp only at hSw)
    go_simp
  (try simp only [Act.put, List.getElem_toArray, List.getElem_cons_zero, List.getElem_cons_succ, List.setIfInBounds_toArray, List.set_cons_zero, List.set_cons_succ])
  refine wpAnyH_take (i := 5) (v := .pointer (some ⟨pb, 6, none⟩)) rfl (by kernel_rfl) (by kernel_rfl) (by kernel_rfl) (fun _ _ _ h => hp _ _ _ _ _ h) (Or.inl ⟨by rfl, ?_⟩) (by assumption) ?_
  · intro w hSw
    (try dsimp only at hSw)
    go_simp
  (try simp only [Act.put, List.getElem_toArray, List.getElem_cons_zero, List.getElem_cons_succ, List.setIfInBounds_toArray, List.set_cons_zero, List.set_cons_succ])
  refine wpAnyH_take (i := 6) (v := valV yh ya xF.len yc) rfl (by kernel_rfl) (by kernel_rfl) (by kernel_rfl) (fun _ _ _ h => hp _ _ _ _ _ h) (Or.inl ⟨by rfl, ?_⟩) (by assumption) ?_
  · intro w hSw
    (try dsimp only at hSw)
    go_simp
  (try simp only [Act.put, List.getElem_toArray, List.getElem_cons_zero, List.getElem_cons_succ, List.setIfInBounds_toArray, List.set_cons_zero, List.set_cons_succ])
  refine wpAnyH_take (i := 7) (v := .iface 28 (valV yh ya xF.len yc)) rfl (by kernel_rfl) (by kernel_rfl) (by kernel_rfl) (fun _ _ _ h => hp _ _ _ _ _ h) (Or.inl ⟨by rfl, ?_⟩) (by assumption) ?_
  · intro w hSw
    (try dsimp only at hSw)
    go_simp
  (try simp only [Act.put, List.getElem_toArray, List.getElem_cons_zero, List.getElem_cons_succ, List.setIfInBounds_toArray, List.set_cons_zero, List.set_cons_succ])
  have hB0 := (Below.refl W.heap.size W).drew
  refine wpAnyH_ready (rs := [4]) (by kernel_rfl) (by simp) ?_
  refine AllReadyH.cons rfl (fun K hK => ?_) AllReadyH.nil
  go_simp
  refine (belowV_any xh xa xF.len xc _).mono ?_
  rintro r w1 ⟨rfl, hb1⟩
  have hB1 := hB0.trans (hb1.mono hB0.size)
  go_wp2_with fail
  refine hK.out _ _ (HSof.out _ hB1) (fun hHeld => ?_)
  clear hK K hB0 hb1
  refine wpAnyH_ready (rs := [8]) (by kernel_rfl) (by simp) ?_
  refine AllReadyH.cons rfl (fun K hK => ?_) AllReadyH.nil
  go_simp
  refine (belowV_any yh ya xF.len yc _).mono ?_
  rintro r w2 ⟨rfl, hb2⟩
  have hB2 := hB1.trans (hb2.mono hB1.size)
  go_wp2_with fail
  refine hK.out _ _ (HSof.out _ hB2) (fun hHeld => ?_)
  clear hK K hB1 hb2
  refine wpAnyH_ready (rs := [9]) (by kernel_rfl) (by simp) ?_
  refine AllReadyH.cons rfl (fun K hK => ?_) AllReadyH.nil
  go_simp
  refine (pairsOfV_any xF yF xa ya xc yc _ HL.out (HI.out _ hB2).1 (HI.out _ hB2).2 hN).mono ?_
  rintro r w3 ⟨⟨v9, rfl, hown9⟩, hb3⟩
  have hB3 := hB2.trans (hb3.mono hB2.size)
  go_wp2_with fail
  refine hK.out _ _ (HSof.out _ hB3) (fun hHeld => ?_)
  clear hK K hb3
  refine wpAnyH_ready (rs := [10]) (by kernel_rfl) (by simp) ?_
  refine AllReadyH.cons rfl (fun K hK => ?_) AllReadyH.nil
  refine wp_append_two w3 _ _ 91 rfl base w2.heap.size 90 i0 _ 12 176 Try.underlying91 hi hz0 hz1 hz2 rfl (by decide) v n xs rfl (HOwn.out _ hB3) v9 xF.len (pairCellsV xF yF xF.len) rfl hown9 (pairCellsV_one _ _ _) (by unfold maxLen; omega) (by omega) (Nat.le_trans hbase hB3.size) ?_
  intro v' w4 hown4 hgr4
  have hT4 : TwoV pb xh (.slice xa xF.len xc) yh (.slice ya xF.len yc) w4 := (HSof.out _ hB3).same (hgr4.block pb (Nat.lt_of_lt_of_le hpl hB3.size) hne)
  refine hK.out _ _ hT4 (fun hHeld => ?_)
  clear hK K
  (try simp only [Act.put, List.getElem_toArray, List.getElem_cons_zero, List.getElem_cons_succ, List.setIfInBounds_toArray, List.set_cons_zero, List.set_cons_succ])
  refine wpAnyH_take (i := 11) (v := v') rfl (by kernel_rfl) (by kernel_rfl) (by kernel_rfl) (fun _ _ _ h => hp _ _ _ _ _ h) (Or.inl ⟨by rfl, ?_⟩) (by assumption) ?_
  · intro w hSw
    (try dsimp only at hSw)
    go_simp
  (try simp only [Act.put, List.getElem_toArray, List.getElem_cons_zero, List.getElem_cons_succ, List.setIfInBounds_toArray, List.set_cons_zero, List.set_cons_succ])
  refine wpAnyH_done (by kernel_rfl) ?_ _
  exact h _ _ _ _ _ _ _ _ _ _ _ _ _ hown4 (grown_trans ⟨hB3.os, hB3.tape, hB3.output, hB3.size, fun k hk _ => hB3.block k hk⟩ hgr4)
end Go.Proofs.Ytalncebnahlmdaa
/- Two values that are the same, by the program: the loop walked. -/
namespace Go.Proofs.Ytalncebnahlmdaa
open Go.RowKit
theorem row_ne_mapV {w : World} {base size g n cap mb : Nat} {e : TypeId} {xs : List Value} {L : List (Pl2 × Value)} (h : w.ownsRow base e size (.slice (some ⟨g, 0, none⟩) n cap) n xs) (hm : pl2KeysV.Has w mb L) : g ≠ mb := by
  intro e'
  obtain ⟨es, clock, hh, _⟩ := hm
  rcases h.2 with ⟨h', _⟩ | ⟨g', cap', cur, h', _, hg, _⟩
  · cases h'
  · simp only [Value.slice.injEq, Option.some.injEq, Addr.mk.injEq, and_true, true_and] at h'
    obtain ⟨rfl, rfl⟩ := h'
    rw [e', hh] at hg
    cases hg
set_option maxRecDepth 100000 in
set_option maxHeartbeats 2000000 in
theorem sameAllV_any (x y : ItV) (w : World) (hx : x.F.In w x.a) (hy : y.F.In w y.a) (hs : x.F.size ≤ 1100000) (hgx : x.Good w) (hgy : y.Good w) (hhx : x.h.In w) (hhy : y.h.In w) :
    Calls Try.prog 31 #[valV x.h x.a x.F.len x.c, valV y.h y.a y.F.len y.c] w fun r w' => SaysT (same2V (x, y)) r ∧ Below w.heap.size w w' := by
  have hmm : ∀ W, (Instr.makeMap 88 none).run Try.prog W = .ok (.map (some W.heap.size)) (W.alloc (.map #[] 0)) := fun W => run_makeMap _ _
  have hmeth := belowV_method
  have hmeth2 := sameHeadV_method
  go_enter Try.func31, Try.ntmps31
  go_wp2_with fail
  go_loopw [6] (fun v wr => ∃ n, SameInvV w x y v wr n) (fun v wr => least (SameInvV w x y v wr))
  case atStart =>
    refine ⟨_, [(x, y)], [], [], LoopV.start ⟨hx, hy⟩ ⟨hhx, hhy⟩, ?_, ?_, ?_, ?_, rfl⟩
    · intro p hp
      rcases hp with hp | hp
      · cases hp
      · rw [List.mem_singleton] at hp; subst hp; exact ⟨hgx, hgy⟩
    · have h := World.ownsRow_lit (base := w.heap.size) (e := 90) (size := 12) (((w.alloc (.cells #[.int .i64 x.h.k, .int .i64 x.h.m, .int .i64 x.h.e, .string x.h.t, .slice x.a x.F.len x.c, .slice x.h.na x.h.ns.length x.h.nc] 28)).alloc (.cells #[.int .i64 y.h.k, .int .i64 y.h.m, .int .i64 y.h.e, .string y.h.t, .slice y.a y.F.len y.c, .slice y.h.na y.h.ns.length y.h.nc] 28)).alloc (.map #[] 0)) #[.int .i64 x.h.k, .int .i64 x.h.m, .int .i64 x.h.e, .string x.h.t, .slice x.a x.F.len x.c, .slice x.h.na x.h.ns.length x.h.nc, .int .i64 y.h.k, .int .i64 y.h.m, .int .i64 y.h.e, .string y.h.t, .slice y.a y.F.len y.c, .slice y.h.na y.h.ns.length y.h.nc] 1 (by simp; omega) (by unfold maxLen; omega) rfl
      have e : (((w.alloc (.cells #[.int .i64 x.h.k, .int .i64 x.h.m, .int .i64 x.h.e, .string x.h.t, .slice x.a x.F.len x.c, .slice x.h.na x.h.ns.length x.h.nc] 28)).alloc (.cells #[.int .i64 y.h.k, .int .i64 y.h.m, .int .i64 y.h.e, .string y.h.t, .slice y.a y.F.len y.c, .slice y.h.na y.h.ns.length y.h.nc] 28)).alloc (.map #[] 0)).heap.size = w.heap.size + 1 + 1 + 1 := by simp
      rw [e] at h
      exact h
    · have e : ((w.alloc (.cells #[.int .i64 x.h.k, .int .i64 x.h.m, .int .i64 x.h.e, .string x.h.t, .slice x.a x.F.len x.c, .slice x.h.na x.h.ns.length x.h.nc] 28)).alloc (.cells #[.int .i64 y.h.k, .int .i64 y.h.m, .int .i64 y.h.e, .string y.h.t, .slice y.a y.F.len y.c, .slice y.h.na y.h.ns.length y.h.nc] 28)).heap.size = w.heap.size + 1 + 1 := by simp
      refine pl2KeysV.has_new _ _ ((Below.heap_alloc _ _ _ (by simp)).trans ?_)
      rw [← e]
      exact heap_alloc_new _ _
    · exact (by (repeat' (first | assumption | exact Below.refl _ _ | refine Below.alloc ?_ ?_ _ | refine Below.setCell ?_ ?_ _ | refine Below.drew ?_ | refine below_drewN ?_ _)) <;> (first | omega | (simp <;> omega)))
  case round =>
    have hM := least_spec hrel
    have HMu : Hid (∀ v' wr' n', SameInvV w x y v' wr' n' → n' < least (SameInvV w x y u6 wr) → least (SameInvV w x y v' wr') < least (SameInvV w x y u6 wr)) := fun v' wr' n' h1 h2 => Nat.lt_of_le_of_lt (least_le h1) h2
    obtain ⟨S, L, D, hL, hgd, hown, hmap, hb, hws⟩ := hM
    have HWs : Hid (wsumV S = least (SameInvV w x y u6 wr)) := hws
    have HL : Hid (LoopV w (x, y) (x.F.size + 1) S L D) := hL
    have HG : Hid (∀ p, p ∈ D ∨ p ∈ S → p.1.Good w ∧ p.2.Good w) := hgd
    clear hL hrel hgd hws
    rcases List.eq_nil_or_concat S with rfl | ⟨S, p, rfl⟩
    · have HR : Hid (same2V (x, y)) := HL.out.done
      rcases hown.2 with ⟨rfl, _⟩ | ⟨g, cap, cur, rfl, _⟩
      · go_wp2_with fail
        go_ret
        exact ⟨⟨true, rfl, fun _ => HR.out, fun _ => rfl⟩, hb⟩
      · go_wp2_with fail
        go_ret
        exact ⟨⟨true, rfl, fun _ => HR.out, fun _ => rfl⟩, hb⟩
    · rw [List.concat_eq_append] at HL HG HWs hown
      rw [List.length_append, List.length_singleton] at hown
      obtain ⟨g, cap, rfl, hg1, hg2⟩ := hown.form (by omega)
      have hpop := row_popV hown
      have q0 : wr.cell? ⟨g, S.length * 12, none⟩ = some (.int .i64 p.1.h.k) := row_lastV hown 0 (by omega)
      have q1 : wr.cell? ⟨g, S.length * 12 + 1, none⟩ = some (.int .i64 p.1.h.m) := row_lastV hown 1 (by omega)
      have q2 : wr.cell? ⟨g, S.length * 12 + 2, none⟩ = some (.int .i64 p.1.h.e) := row_lastV hown 2 (by omega)
      have q3 : wr.cell? ⟨g, S.length * 12 + 3, none⟩ = some (.string p.1.h.t) := row_lastV hown 3 (by omega)
      have q4 : wr.cell? ⟨g, S.length * 12 + 4, none⟩ = some (.slice p.1.a p.1.F.len p.1.c) := row_lastV hown 4 (by omega)
      have q5 : wr.cell? ⟨g, S.length * 12 + 5, none⟩ = some (.slice p.1.h.na p.1.h.ns.length p.1.h.nc) := row_lastV hown 5 (by omega)
      have q6 : wr.cell? ⟨g, S.length * 12 + 6, none⟩ = some (.int .i64 p.2.h.k) := row_lastV hown 6 (by omega)
      have q7 : wr.cell? ⟨g, S.length * 12 + 7, none⟩ = some (.int .i64 p.2.h.m) := row_lastV hown 7 (by omega)
      have q8 : wr.cell? ⟨g, S.length * 12 + 8, none⟩ = some (.int .i64 p.2.h.e) := row_lastV hown 8 (by omega)
      have q9 : wr.cell? ⟨g, S.length * 12 + 9, none⟩ = some (.string p.2.h.t) := row_lastV hown 9 (by omega)
      have q10 : wr.cell? ⟨g, S.length * 12 + 10, none⟩ = some (.slice p.2.a p.2.F.len p.2.c) := row_lastV hown 10 (by omega)
      have q11 : wr.cell? ⟨g, S.length * 12 + 11, none⟩ = some (.slice p.2.h.na p.2.h.ns.length p.2.h.nc) := row_lastV hown 11 (by omega)
      have hlen : S.length ≤ 1100000 := by
        have h1 := HL.out.room
        have h2 := wsum_lengthV (S ++ [p])
        rw [List.length_append, List.length_singleton] at h2
        omega
      have hcap : (S.length : Int) ≤ (cap : Int) ∧ cap ≤ maxLen := by
        rcases hown.2 with ⟨h', _⟩ | ⟨g', cap', cur, h', h2, h3, h4, h5, h6, h7⟩
        · cases h'
        · simp only [Value.slice.injEq, Option.some.injEq, Addr.mk.injEq, and_true, true_and] at h'
          obtain ⟨rfl, rfl⟩ := h'
          exact ⟨by omega, h5⟩
      obtain ⟨hcap1, hcap2⟩ := hcap
      unfold maxLen at hcap2
      clear hown
      have HN : ∀ (n : Nat), S.length = n → True := fun _ _ => trivial
      clear HN
      obtain ⟨n, hn⟩ : ∃ n, S.length = n := ⟨_, rfl⟩
      have HSn : Hid (S.length = n) := hn
      rw [hn] at HMu HWs q0 q1 q2 q3 q4 q5 q6 q7 q8 q9 q10 q11 hlen hcap1 hpop ⊢
      clear hn
      have hn1 : (0 : Int) < (n : Int) + 1 := by omega
      obtain ⟨⟨xh, xa, xF, xc⟩, yh, ya, yF, yc⟩ := p
      dsimp only at q0 q1 q2 q3 q4 q5 q6 q7 q8 q9 q10 q11
      have hB0 := hb.alloc hb.size (.cells #[.int .i64 xh.k, .int .i64 xh.m, .int .i64 xh.e, .string xh.t, .slice xa xF.len xc, .slice xh.na xh.ns.length xh.nc, .int .i64 yh.k, .int .i64 yh.m, .int .i64 yh.e, .string yh.t, .slice ya yF.len yc, .slice yh.na yh.ns.length yh.nc] 90)
      have HHd : Hid (∀ W, Below w.heap.size w W → xh.In W ∧ yh.In W) := fun W h => by
        have hq := HL.out.hdin (⟨xh, xa, xF, xc⟩, ⟨yh, ya, yF, yc⟩) (.inr (by simp))
        exact ⟨hq.1.grow h, hq.2.grow h⟩
      go_wp2_with fail
      refine (sameHeadV_any xh yh xa ya xF.len xc yF.len yc _ (HHd.out _ hB0).1 (HHd.out _ hB0).2).mono ?_
      rintro r w1 ⟨rfl, hb1⟩
      have hB1 := hB0.trans (hb1.mono hB0.size)
      have hpl : wr.heap.size < w1.heap.size := by have := hb1.size; simp at this; omega
      have hbx : (wr.alloc (.cells #[.int .i64 xh.k, .int .i64 xh.m, .int .i64 xh.e, .string xh.t, .slice xa xF.len xc, .slice xh.na xh.ns.length xh.nc, .int .i64 yh.k, .int .i64 yh.m, .int .i64 yh.e, .string yh.t, .slice ya yF.len yc, .slice yh.na yh.ns.length yh.nc] 90)).heap.size = wr.heap.size + 1 := by simp
      have b0 : w1.cell? ⟨wr.heap.size, 0, none⟩ = some (.int .i64 xh.k) := (hb1.cell (p := ⟨wr.heap.size, 0, none⟩) (by simp)).trans (by simp)
      have b1 : w1.cell? ⟨wr.heap.size, 1, none⟩ = some (.int .i64 xh.m) := (hb1.cell (p := ⟨wr.heap.size, 1, none⟩) (by simp)).trans (by simp)
      have b2 : w1.cell? ⟨wr.heap.size, 2, none⟩ = some (.int .i64 xh.e) := (hb1.cell (p := ⟨wr.heap.size, 2, none⟩) (by simp)).trans (by simp)
      have b3 : w1.cell? ⟨wr.heap.size, 3, none⟩ = some (.string xh.t) := (hb1.cell (p := ⟨wr.heap.size, 3, none⟩) (by simp)).trans (by simp)
      have b4 : w1.cell? ⟨wr.heap.size, 4, none⟩ = some (.slice xa xF.len xc) := (hb1.cell (p := ⟨wr.heap.size, 4, none⟩) (by simp)).trans (by simp)
      have b5 : w1.cell? ⟨wr.heap.size, 5, none⟩ = some (.slice xh.na xh.ns.length xh.nc) := (hb1.cell (p := ⟨wr.heap.size, 5, none⟩) (by simp)).trans (by simp)
      have b6 : w1.cell? ⟨wr.heap.size, 6, none⟩ = some (.int .i64 yh.k) := (hb1.cell (p := ⟨wr.heap.size, 6, none⟩) (by simp)).trans (by simp)
      have b7 : w1.cell? ⟨wr.heap.size, 7, none⟩ = some (.int .i64 yh.m) := (hb1.cell (p := ⟨wr.heap.size, 7, none⟩) (by simp)).trans (by simp)
      have b8 : w1.cell? ⟨wr.heap.size, 8, none⟩ = some (.int .i64 yh.e) := (hb1.cell (p := ⟨wr.heap.size, 8, none⟩) (by simp)).trans (by simp)
      have b9 : w1.cell? ⟨wr.heap.size, 9, none⟩ = some (.string yh.t) := (hb1.cell (p := ⟨wr.heap.size, 9, none⟩) (by simp)).trans (by simp)
      have b10 : w1.cell? ⟨wr.heap.size, 10, none⟩ = some (.slice ya yF.len yc) := (hb1.cell (p := ⟨wr.heap.size, 10, none⟩) (by simp)).trans (by simp)
      have b11 : w1.cell? ⟨wr.heap.size, 11, none⟩ = some (.slice yh.na yh.ns.length yh.nc) := (hb1.cell (p := ⟨wr.heap.size, 11, none⟩) (by simp)).trans (by simp)
      have hmlt : w.heap.size + 1 + 1 < wr.heap.size := by obtain ⟨es, clock, h, _⟩ := hmap; exact (Array.getElem?_eq_some_iff.1 h).1
      have hbox := (Below.refl wr.heap.size wr).alloc (Nat.le_refl _) (.cells #[.int .i64 xh.k, .int .i64 xh.m, .int .i64 xh.e, .string xh.t, .slice xa xF.len xc, .slice xh.na xh.ns.length xh.nc, .int .i64 yh.k, .int .i64 yh.m, .int .i64 yh.e, .string yh.t, .slice ya yF.len yc, .slice yh.na yh.ns.length yh.nc] 90)
      have hw1 : Below wr.heap.size wr w1 := hbox.trans (hb1.mono (by simp))
      have HM : Hid (∀ W, Below w1.heap.size w1 W → pl2KeysV.Has W (w.heap.size + 1 + 1) L ∧ W.ownsRow w.heap.size 90 12 (.slice (some ⟨g, 0, none⟩) n cap) n (S.flatMap pcellsV) ∧ Below w.heap.size w W) := fun W h => by
        have hW := hw1.trans (h.mono hw1.size)
        exact ⟨hmap.same _ (hW.block _ hmlt), hpop.kept (row := none) ⟨hW.os, hW.tape, hW.output, hW.size, fun k hk _ => hW.block k hk⟩ (.inr (fun e => by cases e)), hb.trans (hW.mono hb.size)⟩
      clear q0 q1 q2 q3 q4 q5 q6 q7 q8 q9 q10 q11 hb1 hbx hbox hw1 hpop hmap hB0
      have hxs : xF.size ≤ 1100000 := by
        have h1 := HL.out.room
        rw [wsum_appendV] at h1
        have h2 : wsumV [((⟨xh, xa, xF, xc⟩, ⟨yh, ya, yF, yc⟩) : It2V)] = xF.size + 1 + 0 := rfl
        omega
      have hxl : xF.len ≤ 2000000 := by have := xF.len_le; omega
      clear hxs
      have HLie : Hid (xF.In w xa ∧ yF.In w ya) := HL.out.lie (⟨xh, xa, xF, xc⟩, ⟨yh, ya, yF, yc⟩) (.inr (by simp))
      generalize hhs : headSameV xh xF.len yh yF.len = hsm
      cases hsm
      · have HR : Hid (¬ same2V (x, y)) := HL.out.fails (p := (⟨xh, xa, xF, xc⟩, ⟨yh, ya, yF, yc⟩)) hhs
        go_wp2_with fail
        go_ret
        exact ⟨⟨false, rfl, fun h => (by cases h), fun h => absurd h HR.out⟩, hB1⟩
      · have HYN : Hid (yF.len = xF.len) := ((hsame_iffV (⟨xh, xa, xF, xc⟩, ⟨yh, ya, yF, yc⟩)).1 hhs).2.symm
        have HHS : Hid (hsameV (⟨xh, xa, xF, xc⟩, ⟨yh, ya, yF, yc⟩) = true) := hhs
        clear hhs
        have hyl : yF.len ≤ 2000000 := by rw [HYN.out]; exact hxl
        have hT1 : TwoV wr.heap.size xh (.slice xa xF.len xc) yh (.slice ya yF.len yc) w1 := ⟨⟨b0, b1, b2, b3, b4, b5⟩, b6, b7, b8, b9, b10, b11⟩
        clear b0 b1 b2 b3 b4 b5 b6 b7 b8 b9 b10 b11
        go_wp2_with fail
        refine sa8V hT1 (len_orV HLie.out.1) (len_orV HLie.out.2) hxl hyl (fun _ d _ _ _ h => by cases d <;> exact h) ?_
        intro WE B v35 v36 v37 v38 v39 v40 v41 v42 v43 v44 v45 hWE hBge hFC
        obtain ⟨hmE, hrE, hbE⟩ := HM.out _ hWE
        have hgp := HG.out (⟨xh, xa, xF, xc⟩, ⟨yh, ya, yF, yc⟩) (.inr (by simp))
        obtain ⟨n0, hg0, hn0, hcase⟩ := HL.out.count (plOf xa xF.len, plOf ya yF.len)
        have hTE := hT1.same (hWE.block _ hpl)
        have hBmb : B ≠ w.heap.size + 1 + 1 := by omega
        go_wp2_with fail
        refine sa9V (K := (plOf xa xF.len, plOf ya yF.len)) hmE ⟨hgp.1.1.below hbE, hgp.2.1.below hbE⟩ (HL.out.keysOk HG.out hbE) hg0 (by omega) hFC hBmb (fun _ d _ _ _ h => by cases d <;> exact h) ?_
        intro ws v46 v47 v48 v49 v50 v51 hmS hgr hszs
        have hgne := row_ne_mapV hrE hmE
        have hrS := hrE.kept hgr (.inr (fun e => hgne (Option.some.inj e)))
        have hTS := hTE.same (hgr.block wr.heap.size (Nat.lt_of_lt_of_le hpl hWE.size) (fun e => by have := Option.some.inj e; omega))
        have hFS := FourC.grown hgr (fun e => hBmb (Option.some.inj e)) hFC
        have hbS : Below w.heap.size w ws := hbE.grown hgr hbE.size (fun k hk => by have := Option.some.inj hk; omega)
        have hz : (zeroValue 3).run Try.prog ws = .ok (.int .i64 0) ws := by kernel_rfl
        have hoks : ∀ q ∈ putL (plOf xa xF.len, plOf ya yF.len) (.int .i64 ((n0 : Int) + 1)) L, pl2KeysV.ok ws q.1 := fun q hq => by
          rcases putL_keys _ _ L q hq with e | hq
          · rw [e]; exact ⟨hgp.1.1.below hbS, hgp.2.1.below hbS⟩
          · exact HL.out.keysOk HG.out hbS q hq
        have hlook0 := pl2KeysV.look (mty := 88) (et := 3) Try.underlying88 (plOf xa xF.len, plOf ya yF.len) ⟨hgp.1.1.below hbS, hgp.2.1.below hbS⟩ hoks hmS.is hz
        rw [getL_put, if_pos rfl] at hlook0
        have hlook : (Instr.lookup 88 (.map (some (w.heap.size + 1 + 1))) (.agg #[.pointer (plOf xa xF.len).1, .int .i64 (plOf xa xF.len).2, .pointer (plOf ya yF.len).1, .int .i64 (plOf ya yF.len).2]) false).run Try.prog ws = .ok (.int .i64 ((n0 : Int) + 1)) ws := hlook0
        have HTS : Hid (TwoV wr.heap.size xh (.slice xa xF.len xc) yh (.slice ya xF.len yc) ws) := by rw [HYN.out] at hTS; exact hTS
        have HMS : Hid (pl2KeysV.Has ws (w.heap.size + 1 + 1) (putL (plOf xa xF.len, plOf ya yF.len) (.int .i64 ((n0 : Int) + 1)) L)) := hmS
        have HRS : Hid (ws.ownsRow w.heap.size 90 12 (.slice (some ⟨g, 0, none⟩) n cap) n (S.flatMap pcellsV)) := hrS
        have hgpb : g ≠ wr.heap.size := by omega
        obtain ⟨f0, f1, f2, f3⟩ := hFS
        clear hlook0 hoks hz hgp hmE hrE hbE hTE hT1 hFC hgr hszs hmS hrS hTS hg0
        rcases hcase with rfl | ⟨hn01, hcase⟩
        · have hlook' : (Instr.lookup 88 (.map (some (w.heap.size + 1 + 1))) (.agg #[.pointer (plOf xa xF.len).1, .int .i64 (plOf xa xF.len).2, .pointer (plOf ya yF.len).1, .int .i64 (plOf ya yF.len).2]) false).run Try.prog ws = .ok (.int .i64 1) ws := hlook
          clear hlook
          go_wp2_with fail
          refine sa11V (base := w.heap.size) (n := n) (N := xF.len) (xs := S.flatMap pcellsV) HTS.out (HLie.out.1.grow hbS) (HLie.out.2.grow hbS) rfl HYN.out hxl (by omega) HRS.out hbS.size (fun e => hgpb (Option.some.inj e).symm) (fun _ d _ _ _ h => by cases d <;> exact h) ?_
          intro w6 v6 v56 v57 v58 v59 v60 v61 v62 v63 v64 v65 v66 hr6 hgr6
          have hb6 : Below w.heap.size w w6 := hbS.grown hgr6 hbS.size (fun k hk => by have : g = k := Option.some.inj hk; omega)
          have hm6 := HMS.out.same _ (hgr6.block (w.heap.size + 1 + 1) (by obtain ⟨es, clock, h, _⟩ := HMS.out; exact (Array.getElem?_eq_some_iff.1 h).1) (fun e => hgne (Option.some.inj e).symm))
          have hinv : SameInvV w x y v6 w6 (wsumV (S ++ kidPairsV xF yF xF.len)) := ⟨S ++ kidPairsV xF yF xF.len, _, _, HL.out.new (p := (⟨xh, xa, xF, xc⟩, ⟨yh, ya, yF, yc⟩)) HHS.out, good_newV (p := (⟨xh, xa, xF, xc⟩, ⟨yh, ya, yF, yc⟩)) HHS.out HG.out, by rw [List.length_append, kidPairs_lengthV, HSn.out, List.flatMap_append, kidPairs_cellsV]; exact hr6, hm6, hb6, rfl⟩
          have HInv : Hid (SameInvV w x y v6 w6 (wsumV (S ++ kidPairsV xF yF xF.len))) := hinv
          clear hinv hr6 hgr6 hm6
          go_wp2_with fail
          go_round
          case rel => exact ⟨_, HInv.out⟩
          case measure =>
            refine HMu.out _ _ _ HInv.out ?_
            rw [← HWs.out, wsum_appendV, wsum_appendV, wsum_kidsV, upTo_lenV]
            show wsumV S + xF.size < wsumV S + (xF.size + 1 + 0)
            omega
        · have hgd : ((n0 : Int) + 1 == 1) = false := by simp; omega
          have hinv : SameInvV w x y (.slice (some ⟨g, 0, none⟩) n cap) ws (wsumV S) := ⟨S, _, _, HL.out.old (p := (⟨xh, xa, xF, xc⟩, ⟨yh, ya, yF, yc⟩)) HHS.out hcase, good_oldV HG.out, by rw [HSn.out]; exact HRS.out, HMS.out, hbS, rfl⟩
          have HInv : Hid (SameInvV w x y (.slice (some ⟨g, 0, none⟩) n cap) ws (wsumV S)) := hinv
          clear hinv
          go_wp2_with fail
          go_round
          case rel => exact ⟨_, HInv.out⟩
          case measure =>
            refine HMu.out _ _ _ HInv.out ?_
            rw [← HWs.out, wsum_appendV]
            show wsumV S < wsumV S + (xF.size + 1 + 0)
            omega
end Go.Proofs.Ytalncebnahlmdaa
/- Contracts over values: the laws' own measure. -/
namespace Go.Proofs.Ytalncebnahlmdaa
open Go.RowKit
end Go.Proofs.Ytalncebnahlmdaa
/- Two values that are the same: ValueSame of the program, and copies that can be held against each other. -/
namespace Go.Proofs.Ytalncebnahlmdaa
open Go.RowKit
theorem Vo.Cl.below {w w' : World} (hb : Below w.heap.size w w') : ∀ {F : Vo}, F.Cl w → F.Cl w' := by
  intro F
  induction F with
  | nil => intro _; trivial
  | cons h a c kids next ih1 ih2 => rintro ⟨h1, h2, h3⟩; exact ⟨h1.below hb, ih1 h2, ih2 h3⟩
theorem ItV.Good.below {w w' : World} {x : ItV} (h : x.Good w) (hb : Below w.heap.size w w') : x.Good w' := ⟨h.1.below hb, h.2.below hb⟩
set_option maxRecDepth 100000 in
set_option maxHeartbeats 1000000 in
theorem iValueSame_any (x y : ItV) (w : World) (hx : x.F.In w x.a) (hy : y.F.In w y.a) (hs : x.F.size ≤ 1100000) (hgx : x.Good w) (hgy : y.Good w) (hhx : x.h.In w) (hhy : y.h.In w) :
    Calls Try.prog 13 #[valV x.h x.a x.F.len x.c, valV y.h y.a y.F.len y.c] w fun r w' => SaysT (same2V (x, y)) r ∧ Below w.heap.size w w' := by
  have hB0 := ((Below.refl _ w).alloc (Nat.le_refl _) (.cells #[.int .i64 x.h.k, .int .i64 x.h.m, .int .i64 x.h.e, .string x.h.t, .slice x.a x.F.len x.c, .slice x.h.na x.h.ns.length x.h.nc] 28)).alloc (by simp) (.cells #[.int .i64 y.h.k, .int .i64 y.h.m, .int .i64 y.h.e, .string y.h.t, .slice y.a y.F.len y.c, .slice y.h.na y.h.ns.length y.h.nc] 28)
  go_enter Try.func13, Try.ntmps13
  go_wp2_with fail
  refine (sameAllV_any x y _ (hx.grow hB0) (hy.grow hB0) hs (hgx.below hB0) (hgy.below hB0) (hhx.grow hB0) (hhy.grow hB0)).mono ?_
  rintro r w1 ⟨⟨q, rfl, hq⟩, hb1⟩
  have HQ : Hid (q = true ↔ same2V (x, y)) := hq
  clear hq
  have hB1 := hB0.trans (hb1.mono hB0.size)
  go_wp2_with fail
  go_ret
  exact ⟨⟨q, rfl, HQ.out⟩, hB1⟩
/-- a value in its box -/
abbrev BxV (b : Nat) (h : Hd) (s : Value) (w : World) : Prop := w.cell? ⟨b, 0, none⟩ = some (.int .i64 h.k) ∧ w.cell? ⟨b, 1, none⟩ = some (.int .i64 h.m) ∧ w.cell? ⟨b, 2, none⟩ = some (.int .i64 h.e) ∧ w.cell? ⟨b, 3, none⟩ = some (.string h.t) ∧ w.cell? ⟨b, 4, none⟩ = some s ∧ w.cell? ⟨b, 5, none⟩ = some (.slice h.na h.ns.length h.nc)
theorem BxV.below {b : Nat} {h : Hd} {s : Value} {w w' : World} (x : BxV b h s w) (hb : Below w.heap.size w w') : BxV b h s w' := by
  have hl : b < w.heap.size := World.block_lt_of_cell? _ _ x.1
  obtain ⟨h0, h1, h2, h3, h4, h5⟩ := x
  exact ⟨(hb.cell (p := ⟨b, 0, none⟩) hl).trans h0, (hb.cell (p := ⟨b, 1, none⟩) hl).trans h1, (hb.cell (p := ⟨b, 2, none⟩) hl).trans h2, (hb.cell (p := ⟨b, 3, none⟩) hl).trans h3, (hb.cell (p := ⟨b, 4, none⟩) hl).trans h4, (hb.cell (p := ⟨b, 5, none⟩) hl).trans h5⟩
theorem BxV.new (w : World) (h : Hd) (s : Value) (T : TypeId) : BxV w.heap.size h s (w.alloc (.cells #[.int .i64 h.k, .int .i64 h.m, .int .i64 h.e, .string h.t, s, .slice h.na h.ns.length h.nc] T)) := by
  refine ⟨?_, ?_, ?_, ?_, ?_, ?_⟩ <;> simp
end Go.Proofs.Ytalncebnahlmdaa
/- Values that are ok: the region that asks whether a value fits. -/
namespace Go.Proofs.Ytalncebnahlmdaa
open Go.RowKit
set_option maxRecDepth 100000 in
set_option maxHeartbeats 1000000 in
theorem ft2n {Q : Exit → Act → World → Prop} {t0 t1 t2 t4 t5 t6 t7 t8 t9 t10 t11 t12 t13 t14 t15 t16 t17 : Value} {W : World}
    
    (hp : ∀ p d v a w, Q (.panic p) (Act.put a d v) w → Q (.panic p) a w) (h : ∀ ws v6 v7 v8 v9 v10 v11 v12 v13 v14 v15 v16 v17, Below W.heap.size W ws → Q .normal { tmps := (t0 :: t1 :: .bool false :: .nilIface :: t4 :: t5 :: v6 :: v7 :: v8 :: v9 :: v10 :: v11 :: v12 :: v13 :: v14 :: v15 :: v16 :: v17 :: []).toArray, defers := [] } ws) :
    Code.wp Try.prog (Code.region 2 #[{ dst := some 6, op := Op.move (Operand.tmp 3), type := 74, pos := "l7_value.go:102", after := #[], guard := none }, { dst := some 7, op := Op.binOp BinOp.neq 74 (Operand.tmp 6) (Operand.const Value.nilIface) 74, type := 4, pos := "l7_value.go:102", after := #[{ on := 0, ground := Ground.data }], guard := none }, { dst := some 8, op := Op.move (Operand.tmp 7), type := 4, pos := "l7_value.go:102", after := #[{ on := 1, ground := Ground.data }], guard := none }, { dst := some 9, op := Op.move (Operand.tmp 3), type := 74, pos := "l7_value.go:102", after := #[{ on := 2, ground := Ground.guard }], guard := some (2, true) }, { dst := some 10, op := Op.call { callee := Callee.invoke (Operand.tmp 9) "loop.example/chancery/impl.fits", args := #[], argTypes := #[] }, type := 4, pos := "l7_value.go:102", after := #[{ on := 3, ground := Ground.data }, { on := 2, ground := Ground.chain }, { on := 2, ground := Ground.guard }], guard := some (2, true) }, { dst := some 11, op := Op.pick (Operand.tmp 8) (Operand.tmp 10) (Operand.const (Value.bool false)), type := 4, pos := "l7_value.go:102", after := #[{ on := 2, ground := Ground.data }, { on := 4, ground := Ground.data }], guard := none }, { dst := some 12, op := Op.move (Operand.tmp 11), type := 4, pos := "l7_value.go:102", after := #[{ on := 5, ground := Ground.data }, { on := 4, ground := Ground.chain }], guard := none }, { dst := some 13, op := Op.load 28 (Operand.tmp 1), type := 28, pos := "l7_value.go:102", after := #[{ on := 6, ground := Ground.guard }], guard := some (6, true) }, { dst := some 14, op := Op.move (Operand.tmp 3), type := 74, pos := "l7_value.go:102", after := #[{ on := 6, ground := Ground.guard }], guard := some (6, true) }, { dst := some 15, op := Op.call { callee := Callee.invoke (Operand.tmp 14) "loop.example/chancery/impl.value", args := #[], argTypes := #[] }, type := 28, pos := "l7_value.go:102", after := #[{ on := 8, ground := Ground.data }, { on := 6, ground := Ground.chain }, { on := 6, ground := Ground.guard }], guard := some (6, true) }, { dst := some 16, op := Op.call { callee := Callee.value (Operand.func 48), args := #[Operand.tmp 13, Operand.tmp 15], argTypes := #[28, 28] }, type := 4, pos := "l7_value.go:102", after := #[{ on := 7, ground := Ground.data }, { on := 9, ground := Ground.data }, { on := 9, ground := Ground.chain }, { on := 6, ground := Ground.guard }], guard := some (6, true) }, { dst := some 17, op := Op.pick (Operand.tmp 12) (Operand.tmp 16) (Operand.const (Value.bool false)), type := 4, pos := "l7_value.go:102", after := #[{ on := 6, ground := Ground.data }, { on := 10, ground := Ground.data }], guard := none }, { dst := some 2, op := Op.assign (Operand.tmp 17), type := 4, pos := "l7_value.go:102", after := #[{ on := 11, ground := Ground.data }, { on := 10, ground := Ground.chain }, { on := 0, ground := Ground.phase }, { on := 1, ground := Ground.phase }, { on := 2, ground := Ground.phase }, { on := 3, ground := Ground.phase }, { on := 4, ground := Ground.phase }, { on := 5, ground := Ground.phase }, { on := 6, ground := Ground.phase }, { on := 7, ground := Ground.phase }, { on := 8, ground := Ground.phase }, { on := 9, ground := Ground.phase }, { on := 10, ground := Ground.phase }, { on := 11, ground := Ground.phase }], guard := none }] true) Q { tmps := (t0 :: t1 :: t2 :: .nilIface :: t4 :: t5 :: t6 :: t7 :: t8 :: t9 :: t10 :: t11 :: t12 :: t13 :: t14 :: t15 :: t16 :: t17 :: []).toArray, defers := [] } W := by
  refine wp_region_held_drew (S := fun _ => True) (by kernel_rfl) trivial (fun hHeld => ?_)
  refine wpAnyH_take (i := 0) (v := .nilIface) rfl (by kernel_rfl) (by kernel_rfl) (by kernel_rfl) (fun _ _ _ h => hp _ _ _ _ _ h) (Or.inl ⟨by rfl, ?_⟩) (by assumption) ?_
  · intro w hSw
    (try dsimp only at hSw)
    go_simp
  (try simp only [Act.put, List.getElem_toArray, List.getElem_cons_zero, List.setIfInBounds_toArray, List.set_cons_zero, List.set_cons_succ])
  refine wpAnyH_take (i := 1) (v := .bool false) rfl (by kernel_rfl) (by kernel_rfl) (by kernel_rfl) (fun _ _ _ h => hp _ _ _ _ _ h) (Or.inl ⟨by rfl, ?_⟩) (by assumption) ?_
  · intro w hSw
    (try dsimp only at hSw)
    go_simp
  (try simp only [Act.put, List.getElem_toArray, List.getElem_cons_zero, List.getElem_cons_succ, List.setIfInBounds_toArray, List.set_cons_zero, List.set_cons_succ])
  refine wpAnyH_take (i := 2) (v := .bool false) rfl (by kernel_rfl) (by kernel_rfl) (by kernel_rfl) (fun _ _ _ h => hp _ _ _ _ _ h) (Or.inl ⟨by rfl, ?_⟩) (by assumption) ?_
  · intro w hSw
    (try dsimp only at hSw)
    go_simp
  (try simp only [Act.put, List.getElem_toArray, List.getElem_cons_zero, List.getElem_cons_succ, List.setIfInBounds_toArray, List.set_cons_zero, List.set_cons_succ])
  refine wpAnyH_take (i := 3) (v := undef) rfl (by kernel_rfl) (by kernel_rfl) (by kernel_rfl) (fun _ _ _ h => hp _ _ _ _ _ h) (Or.inr ⟨by rfl, rfl⟩) (by assumption) ?_
  (try simp only [Act.put, List.getElem_toArray, List.getElem_cons_zero, List.getElem_cons_succ, List.setIfInBounds_toArray, List.set_cons_zero, List.set_cons_succ])
  refine wpAnyH_take (i := 4) (v := undef) rfl (by kernel_rfl) (by kernel_rfl) (by kernel_rfl) (fun _ _ _ h => hp _ _ _ _ _ h) (Or.inr ⟨by rfl, rfl⟩) (by assumption) ?_
  (try simp only [Act.put, List.getElem_toArray, List.getElem_cons_zero, List.getElem_cons_succ, List.setIfInBounds_toArray, List.set_cons_zero, List.set_cons_succ])
  refine wpAnyH_take (i := 5) (v := .bool false) rfl (by kernel_rfl) (by kernel_rfl) (by kernel_rfl) (fun _ _ _ h => hp _ _ _ _ _ h) (Or.inl ⟨by rfl, ?_⟩) (by assumption) ?_
  · intro w hSw
    (try dsimp only at hSw)
    go_simp
  (try simp only [Act.put, List.getElem_toArray, List.getElem_cons_zero, List.getElem_cons_succ, List.setIfInBounds_toArray, List.set_cons_zero, List.set_cons_succ])
  refine wpAnyH_take (i := 6) (v := .bool false) rfl (by kernel_rfl) (by kernel_rfl) (by kernel_rfl) (fun _ _ _ h => hp _ _ _ _ _ h) (Or.inl ⟨by rfl, ?_⟩) (by assumption) ?_
  · intro w hSw
    (try dsimp only at hSw)
    go_simp
  (try simp only [Act.put, List.getElem_toArray, List.getElem_cons_zero, List.getElem_cons_succ, List.setIfInBounds_toArray, List.set_cons_zero, List.set_cons_succ])
  refine wpAnyH_take (i := 7) (v := undef) rfl (by kernel_rfl) (by kernel_rfl) (by kernel_rfl) (fun _ _ _ h => hp _ _ _ _ _ h) (Or.inr ⟨by rfl, rfl⟩) (by assumption) ?_
  (try simp only [Act.put, List.getElem_toArray, List.getElem_cons_zero, List.getElem_cons_succ, List.setIfInBounds_toArray, List.set_cons_zero, List.set_cons_succ])
  refine wpAnyH_take (i := 8) (v := undef) rfl (by kernel_rfl) (by kernel_rfl) (by kernel_rfl) (fun _ _ _ h => hp _ _ _ _ _ h) (Or.inr ⟨by rfl, rfl⟩) (by assumption) ?_
  (try simp only [Act.put, List.getElem_toArray, List.getElem_cons_zero, List.getElem_cons_succ, List.setIfInBounds_toArray, List.set_cons_zero, List.set_cons_succ])
  refine wpAnyH_take (i := 9) (v := undef) rfl (by kernel_rfl) (by kernel_rfl) (by kernel_rfl) (fun _ _ _ h => hp _ _ _ _ _ h) (Or.inr ⟨by rfl, rfl⟩) (by assumption) ?_
  (try simp only [Act.put, List.getElem_toArray, List.getElem_cons_zero, List.getElem_cons_succ, List.setIfInBounds_toArray, List.set_cons_zero, List.set_cons_succ])
  refine wpAnyH_take (i := 10) (v := undef) rfl (by kernel_rfl) (by kernel_rfl) (by kernel_rfl) (fun _ _ _ h => hp _ _ _ _ _ h) (Or.inr ⟨by rfl, rfl⟩) (by assumption) ?_
  (try simp only [Act.put, List.getElem_toArray, List.getElem_cons_zero, List.getElem_cons_succ, List.setIfInBounds_toArray, List.set_cons_zero, List.set_cons_succ])
  refine wpAnyH_take (i := 11) (v := .bool false) rfl (by kernel_rfl) (by kernel_rfl) (by kernel_rfl) (fun _ _ _ h => hp _ _ _ _ _ h) (Or.inl ⟨by rfl, ?_⟩) (by assumption) ?_
  · intro w hSw
    (try dsimp only at hSw)
    go_simp
  (try simp only [Act.put, List.getElem_toArray, List.getElem_cons_zero, List.getElem_cons_succ, List.setIfInBounds_toArray, List.set_cons_zero, List.set_cons_succ])
  refine wpAnyH_take (i := 12) (v := .bool false) rfl (by kernel_rfl) (by kernel_rfl) (by kernel_rfl) (fun _ _ _ h => hp _ _ _ _ _ h) (Or.inl ⟨by rfl, ?_⟩) (by assumption) ?_
  · intro w hSw
    (try dsimp only at hSw)
    go_simp
  (try simp only [Act.put, List.getElem_toArray, List.getElem_cons_zero, List.getElem_cons_succ, List.setIfInBounds_toArray, List.set_cons_zero, List.set_cons_succ])
  refine wpAnyH_done (by kernel_rfl) ?_ _
  exact h _ _ _ _ _ _ _ _ _ _ _ _ _ ((Below.refl W.heap.size W).drew)
set_option maxRecDepth 100000 in
set_option maxHeartbeats 1000000 in
theorem ft2 {Q : Exit → Act → World → Prop} {t0 t2 t4 t5 t6 t7 t8 t9 t10 t11 t12 t13 t14 t15 t16 t17 : Value} {W : World} {b n c gn gc : Nat} {hd g : Hd} {a ga : Option Addr} {T fid vid : Nat} {sv : Value} {P P2 : Bool → Prop}
    (hX : BxV b hd (.slice a n c) W) (he1 : ∀ args w, (callFunc fid args).run Try.prog w = .ok (.enter fid args) w) (he2 : ∀ args w, (callFunc vid args).run Try.prog w = .ok (.enter vid args) w) (hm1 : ∀ W', (method 273 T sv "loop.example/chancery/impl.fits").run Try.prog W' = .ok (fid, sv) W') (hm2 : ∀ W', (method 273 T sv "loop.example/chancery/impl.value").run Try.prog W' = .ok (vid, sv) W') (hfits : ∀ W', Below W.heap.size W W' → Calls Try.prog fid #[sv] W' fun r w' => (∃ q : Bool, r = .returned (.bool q) ∧ P q) ∧ Below W'.heap.size W' w') (hval : ∀ W', Below W.heap.size W W' → Calls Try.prog vid #[sv] W' fun r w' => r = .returned (valV g ga gn gc) ∧ Below W'.heap.size W' w') (hsame : ∀ W', Below W.heap.size W W' → Calls Try.prog 48 #[valV hd a n c, valV g ga gn gc] W' fun r w' => (∃ q : Bool, r = .returned (.bool q) ∧ P2 q) ∧ Below W'.heap.size W' w')
    (hp : ∀ p d v a w, Q (.panic p) (Act.put a d v) w → Q (.panic p) a w) (h : ∀ ws q v6 v7 v8 v9 v10 v11 v12 v13 v14 v15 v16 v17, ((P false ∧ q = false) ∨ (P true ∧ P2 q)) → Below W.heap.size W ws → Q .normal { tmps := (t0 :: .pointer (some ⟨b, 0, none⟩) :: .bool q :: (.iface T sv) :: t4 :: t5 :: v6 :: v7 :: v8 :: v9 :: v10 :: v11 :: v12 :: v13 :: v14 :: v15 :: v16 :: v17 :: []).toArray, defers := [] } ws) :
    Code.wp Try.prog (Code.region 2 #[{ dst := some 6, op := Op.move (Operand.tmp 3), type := 74, pos := "l7_value.go:102", after := #[], guard := none }, { dst := some 7, op := Op.binOp BinOp.neq 74 (Operand.tmp 6) (Operand.const Value.nilIface) 74, type := 4, pos := "l7_value.go:102", after := #[{ on := 0, ground := Ground.data }], guard := none }, { dst := some 8, op := Op.move (Operand.tmp 7), type := 4, pos := "l7_value.go:102", after := #[{ on := 1, ground := Ground.data }], guard := none }, { dst := some 9, op := Op.move (Operand.tmp 3), type := 74, pos := "l7_value.go:102", after := #[{ on := 2, ground := Ground.guard }], guard := some (2, true) }, { dst := some 10, op := Op.call { callee := Callee.invoke (Operand.tmp 9) "loop.example/chancery/impl.fits", args := #[], argTypes := #[] }, type := 4, pos := "l7_value.go:102", after := #[{ on := 3, ground := Ground.data }, { on := 2, ground := Ground.chain }, { on := 2, ground := Ground.guard }], guard := some (2, true) }, { dst := some 11, op := Op.pick (Operand.tmp 8) (Operand.tmp 10) (Operand.const (Value.bool false)), type := 4, pos := "l7_value.go:102", after := #[{ on := 2, ground := Ground.data }, { on := 4, ground := Ground.data }], guard := none }, { dst := some 12, op := Op.move (Operand.tmp 11), type := 4, pos := "l7_value.go:102", after := #[{ on := 5, ground := Ground.data }, { on := 4, ground := Ground.chain }], guard := none }, { dst := some 13, op := Op.load 28 (Operand.tmp 1), type := 28, pos := "l7_value.go:102", after := #[{ on := 6, ground := Ground.guard }], guard := some (6, true) }, { dst := some 14, op := Op.move (Operand.tmp 3), type := 74, pos := "l7_value.go:102", after := #[{ on := 6, ground := Ground.guard }], guard := some (6, true) }, { dst := some 15, op := Op.call { callee := Callee.invoke (Operand.tmp 14) "loop.example/chancery/impl.value", args := #[], argTypes := #[] }, type := 28, pos := "l7_value.go:102", after := #[{ on := 8, ground := Ground.data }, { on := 6, ground := Ground.chain }, { on := 6, ground := Ground.guard }], guard := some (6, true) }, { dst := some 16, op := Op.call { callee := Callee.value (Operand.func 48), args := #[Operand.tmp 13, Operand.tmp 15], argTypes := #[28, 28] }, type := 4, pos := "l7_value.go:102", after := #[{ on := 7, ground := Ground.data }, { on := 9, ground := Ground.data }, { on := 9, ground := Ground.chain }, { on := 6, ground := Ground.guard }], guard := some (6, true) }, { dst := some 17, op := Op.pick (Operand.tmp 12) (Operand.tmp 16) (Operand.const (Value.bool false)), type := 4, pos := "l7_value.go:102", after := #[{ on := 6, ground := Ground.data }, { on := 10, ground := Ground.data }], guard := none }, { dst := some 2, op := Op.assign (Operand.tmp 17), type := 4, pos := "l7_value.go:102", after := #[{ on := 11, ground := Ground.data }, { on := 10, ground := Ground.chain }, { on := 0, ground := Ground.phase }, { on := 1, ground := Ground.phase }, { on := 2, ground := Ground.phase }, { on := 3, ground := Ground.phase }, { on := 4, ground := Ground.phase }, { on := 5, ground := Ground.phase }, { on := 6, ground := Ground.phase }, { on := 7, ground := Ground.phase }, { on := 8, ground := Ground.phase }, { on := 9, ground := Ground.phase }, { on := 10, ground := Ground.phase }, { on := 11, ground := Ground.phase }], guard := none }] true) Q { tmps := (t0 :: .pointer (some ⟨b, 0, none⟩) :: t2 :: (.iface T sv) :: t4 :: t5 :: t6 :: t7 :: t8 :: t9 :: t10 :: t11 :: t12 :: t13 :: t14 :: t15 :: t16 :: t17 :: []).toArray, defers := [] } W := by
  have HSof : Hid (∀ w', Below W.heap.size W w' → BxV b hd (.slice a n c) w') := fun w' h => hX.below h
  have hS0 := HSof.out _ ((Below.refl _ W).drew)
  have hB0 := (Below.refl W.heap.size W).drew
  clear hX
  refine wp_region_held_drew (S := fun w' => BxV b hd (.slice a n c) w') (by kernel_rfl) hS0 (fun hHeld => ?_)
  refine wpAnyH_take (i := 0) (v := .iface T sv) rfl (by kernel_rfl) (by kernel_rfl) (by kernel_rfl) (fun _ _ _ h => hp _ _ _ _ _ h) (Or.inl ⟨by rfl, ?_⟩) (by assumption) ?_
  · intro w hSw
    (try dsimp only at hSw)
    go_simp
  (try simp only [Act.put, List.getElem_toArray, List.getElem_cons_zero, List.setIfInBounds_toArray, List.set_cons_zero, List.set_cons_succ])
  refine wpAnyH_take (i := 1) (v := .bool true) rfl (by kernel_rfl) (by kernel_rfl) (by kernel_rfl) (fun _ _ _ h => hp _ _ _ _ _ h) (Or.inl ⟨by rfl, ?_⟩) (by assumption) ?_
  · intro w hSw
    (try dsimp only at hSw)
    go_simp
  (try simp only [Act.put, List.getElem_toArray, List.getElem_cons_zero, List.getElem_cons_succ, List.setIfInBounds_toArray, List.set_cons_zero, List.set_cons_succ])
  refine wpAnyH_take (i := 2) (v := .bool true) rfl (by kernel_rfl) (by kernel_rfl) (by kernel_rfl) (fun _ _ _ h => hp _ _ _ _ _ h) (Or.inl ⟨by rfl, ?_⟩) (by assumption) ?_
  · intro w hSw
    (try dsimp only at hSw)
    go_simp
  (try simp only [Act.put, List.getElem_toArray, List.getElem_cons_zero, List.getElem_cons_succ, List.setIfInBounds_toArray, List.set_cons_zero, List.set_cons_succ])
  refine wpAnyH_take (i := 3) (v := .iface T sv) rfl (by kernel_rfl) (by kernel_rfl) (by kernel_rfl) (fun _ _ _ h => hp _ _ _ _ _ h) (Or.inl ⟨by rfl, ?_⟩) (by assumption) ?_
  · intro w hSw
    (try dsimp only at hSw)
    go_simp
  (try simp only [Act.put, List.getElem_toArray, List.getElem_cons_zero, List.getElem_cons_succ, List.setIfInBounds_toArray, List.set_cons_zero, List.set_cons_succ])
  refine wpAnyH_ready (rs := [4]) (by kernel_rfl) (by simp) ?_
  refine AllReadyH.cons rfl (fun K hK => ?_) AllReadyH.nil
  rw [if_pos (by rfl)]
  go_simp
  refine (hfits _ hB0).mono ?_
  rintro r w1 ⟨⟨q1, rfl, hq1⟩, hb1⟩
  have hB1 := hB0.trans (hb1.mono hB0.size)
  have HQ1 : Hid (P q1) := hq1
  clear hq1
  go_wp2_with fail
  refine hK.out _ _ (HSof.out _ hB1) (fun hHeld => ?_)
  clear hK K hb1 hB0 hfits
  cases q1
  · refine wpAnyH_take (i := 5) (v := .bool false) rfl (by kernel_rfl) (by kernel_rfl) (by kernel_rfl) (fun _ _ _ h => hp _ _ _ _ _ h) (Or.inl ⟨by rfl, ?_⟩) (by assumption) ?_
    · intro w hSw
      (try dsimp only at hSw)
      go_simp
    (try simp only [Act.put, List.getElem_toArray, List.getElem_cons_zero, List.getElem_cons_succ, List.setIfInBounds_toArray, List.set_cons_zero, List.set_cons_succ])
    refine wpAnyH_take (i := 6) (v := .bool false) rfl (by kernel_rfl) (by kernel_rfl) (by kernel_rfl) (fun _ _ _ h => hp _ _ _ _ _ h) (Or.inl ⟨by rfl, ?_⟩) (by assumption) ?_
    · intro w hSw
      (try dsimp only at hSw)
      go_simp
    (try simp only [Act.put, List.getElem_toArray, List.getElem_cons_zero, List.getElem_cons_succ, List.setIfInBounds_toArray, List.set_cons_zero, List.set_cons_succ])
    refine wpAnyH_take (i := 7) (v := undef) rfl (by kernel_rfl) (by kernel_rfl) (by kernel_rfl) (fun _ _ _ h => hp _ _ _ _ _ h) (Or.inr ⟨by rfl, rfl⟩) (by assumption) ?_
    (try simp only [Act.put, List.getElem_toArray, List.getElem_cons_zero, List.getElem_cons_succ, List.setIfInBounds_toArray, List.set_cons_zero, List.set_cons_succ])
    refine wpAnyH_take (i := 8) (v := undef) rfl (by kernel_rfl) (by kernel_rfl) (by kernel_rfl) (fun _ _ _ h => hp _ _ _ _ _ h) (Or.inr ⟨by rfl, rfl⟩) (by assumption) ?_
    (try simp only [Act.put, List.getElem_toArray, List.getElem_cons_zero, List.getElem_cons_succ, List.setIfInBounds_toArray, List.set_cons_zero, List.set_cons_succ])
    refine wpAnyH_take (i := 9) (v := undef) rfl (by kernel_rfl) (by kernel_rfl) (by kernel_rfl) (fun _ _ _ h => hp _ _ _ _ _ h) (Or.inr ⟨by rfl, rfl⟩) (by assumption) ?_
    (try simp only [Act.put, List.getElem_toArray, List.getElem_cons_zero, List.getElem_cons_succ, List.setIfInBounds_toArray, List.set_cons_zero, List.set_cons_succ])
    refine wpAnyH_take (i := 10) (v := undef) rfl (by kernel_rfl) (by kernel_rfl) (by kernel_rfl) (fun _ _ _ h => hp _ _ _ _ _ h) (Or.inr ⟨by rfl, rfl⟩) (by assumption) ?_
    (try simp only [Act.put, List.getElem_toArray, List.getElem_cons_zero, List.getElem_cons_succ, List.setIfInBounds_toArray, List.set_cons_zero, List.set_cons_succ])
    refine wpAnyH_take (i := 11) (v := .bool false) rfl (by kernel_rfl) (by kernel_rfl) (by kernel_rfl) (fun _ _ _ h => hp _ _ _ _ _ h) (Or.inl ⟨by rfl, ?_⟩) (by assumption) ?_
    · intro w hSw
      (try dsimp only at hSw)
      go_simp
    (try simp only [Act.put, List.getElem_toArray, List.getElem_cons_zero, List.getElem_cons_succ, List.setIfInBounds_toArray, List.set_cons_zero, List.set_cons_succ])
    refine wpAnyH_take (i := 12) (v := .bool false) rfl (by kernel_rfl) (by kernel_rfl) (by kernel_rfl) (fun _ _ _ h => hp _ _ _ _ _ h) (Or.inl ⟨by rfl, ?_⟩) (by assumption) ?_
    · intro w hSw
      (try dsimp only at hSw)
      go_simp
    (try simp only [Act.put, List.getElem_toArray, List.getElem_cons_zero, List.getElem_cons_succ, List.setIfInBounds_toArray, List.set_cons_zero, List.set_cons_succ])
    refine wpAnyH_done (by kernel_rfl) ?_ _
    exact h _ _ _ _ _ _ _ _ _ _ _ _ _ _ (.inl ⟨HQ1.out, rfl⟩) hB1
  · refine wpAnyH_take (i := 5) (v := .bool true) rfl (by kernel_rfl) (by kernel_rfl) (by kernel_rfl) (fun _ _ _ h => hp _ _ _ _ _ h) (Or.inl ⟨by rfl, ?_⟩) (by assumption) ?_
    · intro w hSw
      (try dsimp only at hSw)
      go_simp
    (try simp only [Act.put, List.getElem_toArray, List.getElem_cons_zero, List.getElem_cons_succ, List.setIfInBounds_toArray, List.set_cons_zero, List.set_cons_succ])
    refine wpAnyH_take (i := 6) (v := .bool true) rfl (by kernel_rfl) (by kernel_rfl) (by kernel_rfl) (fun _ _ _ h => hp _ _ _ _ _ h) (Or.inl ⟨by rfl, ?_⟩) (by assumption) ?_
    · intro w hSw
      (try dsimp only at hSw)
      go_simp
    (try simp only [Act.put, List.getElem_toArray, List.getElem_cons_zero, List.getElem_cons_succ, List.setIfInBounds_toArray, List.set_cons_zero, List.set_cons_succ])
    refine wpAnyH_take (i := 7) (v := valV hd a n c) rfl (by kernel_rfl) (by kernel_rfl) (by kernel_rfl) (fun _ _ _ h => hp _ _ _ _ _ h) (Or.inl ⟨by rfl, ?_⟩) (by assumption) ?_
    · intro w hSw
      (try dsimp only at hSw)
      go_simp
    (try simp only [Act.put, List.getElem_toArray, List.getElem_cons_zero, List.getElem_cons_succ, List.setIfInBounds_toArray, List.set_cons_zero, List.set_cons_succ])
    refine wpAnyH_take (i := 8) (v := .iface T sv) rfl (by kernel_rfl) (by kernel_rfl) (by kernel_rfl) (fun _ _ _ h => hp _ _ _ _ _ h) (Or.inl ⟨by rfl, ?_⟩) (by assumption) ?_
    · intro w hSw
      (try dsimp only at hSw)
      go_simp
    (try simp only [Act.put, List.getElem_toArray, List.getElem_cons_zero, List.getElem_cons_succ, List.setIfInBounds_toArray, List.set_cons_zero, List.set_cons_succ])
    refine wpAnyH_ready (rs := [9]) (by kernel_rfl) (by simp) ?_
    refine AllReadyH.cons rfl (fun K hK => ?_) AllReadyH.nil
    rw [if_pos (by rfl)]
    go_simp
    refine (hval _ hB1).mono ?_
    rintro r w2 ⟨rfl, hb2⟩
    have hB2 := hB1.trans (hb2.mono hB1.size)
    go_wp2_with fail
    refine hK.out _ _ (HSof.out _ hB2) (fun hHeld => ?_)
    clear hK K hb2 hB1 hval
    refine wpAnyH_ready (rs := [10]) (by kernel_rfl) (by simp) ?_
    refine AllReadyH.cons rfl (fun K hK => ?_) AllReadyH.nil
    rw [if_pos (by rfl)]
    go_simp
    refine (hsame _ hB2).mono ?_
    rintro r w3 ⟨⟨q2, rfl, hq2⟩, hb3⟩
    have hB3 := hB2.trans (hb3.mono hB2.size)
    have HQ2 : Hid (P2 q2) := hq2
    clear hq2
    go_wp2_with fail
    refine hK.out _ _ (HSof.out _ hB3) (fun hHeld => ?_)
    clear hK K hb3 hB2 hsame
    refine wpAnyH_take (i := 11) (v := .bool q2) rfl (by kernel_rfl) (by kernel_rfl) (by kernel_rfl) (fun _ _ _ h => hp _ _ _ _ _ h) (Or.inl ⟨by rfl, ?_⟩) (by assumption) ?_
    · intro w hSw
      (try dsimp only at hSw)
      go_simp
    (try simp only [Act.put, List.getElem_toArray, List.getElem_cons_zero, List.getElem_cons_succ, List.setIfInBounds_toArray, List.set_cons_zero, List.set_cons_succ])
    refine wpAnyH_take (i := 12) (v := .bool q2) rfl (by kernel_rfl) (by kernel_rfl) (by kernel_rfl) (fun _ _ _ h => hp _ _ _ _ _ h) (Or.inl ⟨by rfl, ?_⟩) (by assumption) ?_
    · intro w hSw
      (try dsimp only at hSw)
      go_simp
    (try simp only [Act.put, List.getElem_toArray, List.getElem_cons_zero, List.getElem_cons_succ, List.setIfInBounds_toArray, List.set_cons_zero, List.set_cons_succ])
    refine wpAnyH_done (by kernel_rfl) ?_ _
    exact h _ _ _ _ _ _ _ _ _ _ _ _ _ _ (.inr ⟨HQ1.out, HQ2.out⟩) hB3
end Go.Proofs.Ytalncebnahlmdaa
/- Contracts for trees that are ok: the texts, the counts. -/
namespace Go.Proofs.Ytalncebnahlmdaa
open Go.RowKit

set_option maxHeartbeats 400000 in
theorem shortText_any (s : ByteArray) (w : World) (hs : s.size ≤ maxLen) :
    Calls Try.prog 145 #[.string s] w fun e w' => e = .returned (.bool (decide (s.size ≤ 1500))) ∧ w' = w := by
  unfold maxLen at hs
  go_enter Try.func145, Try.ntmps145
  go_wp2_with fail
  go_ret
  exact ⟨lret_bool (by rw [Bool.eq_iff_iff]; first | (simp; done) | (simp; omega)), rfl⟩

end Go.Proofs.Ytalncebnahlmdaa
/- Values that are ok: whether a value fits, by the program. -/
namespace Go.Proofs.Ytalncebnahlmdaa
open Go.RowKit
/-- a value has just what its kind has; so many values are right in it -/
def one (h : Hd) (n : Nat) : Prop :=
  ((h.k = 0 ∨ h.k = 1 ∨ h.k = 2) ∧ ((h.m = 0 ∧ h.e = 0 ∧ h.t = ⟨#[]⟩) ∧ h.ns = []) ∧ n = 0) ∨
  (h.k = 3 ∧ Dm.ok h.m h.e = true ∧ (h.t = ⟨#[]⟩ ∧ h.ns = []) ∧ n = 0) ∨
  (h.k = 4 ∧ h.t.size ≤ 1500 ∧ (h.m = 0 ∧ h.e = 0 ∧ h.ns = []) ∧ n = 0) ∨
  (h.k = 5 ∧ (h.m = 0 ∧ h.e = 0 ∧ h.t = ⟨#[]⟩) ∧ h.ns = []) ∨
  (h.k = 6 ∧ (h.ns.length = n ∧ nmAsc h.ns h.ns.length) ∧ h.m = 0 ∧ h.e = 0 ∧ h.t = ⟨#[]⟩)
set_option maxHeartbeats 1000000 in
theorem sort_0 (h : Hd) (a : Option Addr) (n c : Nat) (w : World) (hk : h.k = 0) :
    Calls Try.prog 47 #[valV h a n c] w fun r w' => r = .returned (.iface 97 (.agg #[])) ∧ Below w.heap.size w w' := by
  obtain ⟨k, m, e, t, na, nc, ns⟩ := h
  dsimp only at hk
  subst hk
  go_enter Try.func47, Try.ntmps47
  go_wp2_with fail
  go_ret
  exact ⟨rfl, (Below.refl _ w).alloc (Nat.le_refl _) _⟩
set_option maxHeartbeats 1000000 in
theorem sort_1 (h : Hd) (a : Option Addr) (n c : Nat) (w : World) (hk : h.k = 1) :
    Calls Try.prog 47 #[valV h a n c] w fun r w' => r = .returned (.iface 102 (.bool true)) ∧ Below w.heap.size w w' := by
  obtain ⟨k, m, e, t, na, nc, ns⟩ := h
  dsimp only at hk
  subst hk
  go_enter Try.func47, Try.ntmps47
  go_wp2_with fail
  go_ret
  exact ⟨rfl, (Below.refl _ w).alloc (Nat.le_refl _) _⟩
set_option maxHeartbeats 1000000 in
theorem sort_2 (h : Hd) (a : Option Addr) (n c : Nat) (w : World) (hk : h.k = 2) :
    Calls Try.prog 47 #[valV h a n c] w fun r w' => r = .returned (.iface 102 (.bool false)) ∧ Below w.heap.size w w' := by
  obtain ⟨k, m, e, t, na, nc, ns⟩ := h
  dsimp only at hk
  subst hk
  go_enter Try.func47, Try.ntmps47
  go_wp2_with fail
  go_ret
  exact ⟨rfl, (Below.refl _ w).alloc (Nat.le_refl _) _⟩
set_option maxHeartbeats 1000000 in
theorem sort_3 (h : Hd) (a : Option Addr) (n c : Nat) (w : World) (hk : h.k = 3) :
    Calls Try.prog 47 #[valV h a n c] w fun r w' => r = .returned (.iface 103 (.agg #[.int .i64 h.m, .int .i64 h.e])) ∧ Below w.heap.size w w' := by
  obtain ⟨k, m, e, t, na, nc, ns⟩ := h
  dsimp only at hk
  subst hk
  go_enter Try.func47, Try.ntmps47
  go_wp2_with fail
  go_ret
  exact ⟨rfl, (Below.refl _ w).alloc (Nat.le_refl _) _⟩
set_option maxHeartbeats 1000000 in
theorem sort_4 (h : Hd) (a : Option Addr) (n c : Nat) (w : World) (hk : h.k = 4) :
    Calls Try.prog 47 #[valV h a n c] w fun r w' => r = .returned (.iface 105 (.string h.t)) ∧ Below w.heap.size w w' := by
  obtain ⟨k, m, e, t, na, nc, ns⟩ := h
  dsimp only at hk
  subst hk
  go_enter Try.func47, Try.ntmps47
  go_wp2_with fail
  go_ret
  exact ⟨rfl, (Below.refl _ w).alloc (Nat.le_refl _) _⟩
set_option maxHeartbeats 1000000 in
theorem sort_5 (h : Hd) (a : Option Addr) (n c : Nat) (w : World) (hk : h.k = 5) :
    Calls Try.prog 47 #[valV h a n c] w fun r w' => r = .returned (.iface 107 (.slice a n c)) ∧ Below w.heap.size w w' := by
  obtain ⟨k, m, e, t, na, nc, ns⟩ := h
  dsimp only at hk
  subst hk
  go_enter Try.func47, Try.ntmps47
  go_wp2_with fail
  go_ret
  exact ⟨rfl, (Below.refl _ w).alloc (Nat.le_refl _) _⟩
set_option maxHeartbeats 1000000 in
theorem sort_6 (h : Hd) (a : Option Addr) (n c : Nat) (w : World) (hk : h.k = 6) :
    Calls Try.prog 47 #[valV h a n c] w fun r w' => r = .returned (.iface 110 (.agg #[.slice h.na h.ns.length h.nc, .slice a n c])) ∧ Below w.heap.size w w' := by
  obtain ⟨k, m, e, t, na, nc, ns⟩ := h
  dsimp only at hk
  subst hk
  go_enter Try.func47, Try.ntmps47
  go_wp2_with fail
  go_ret
  exact ⟨rfl, (Below.refl _ w).alloc (Nat.le_refl _) _⟩
set_option maxHeartbeats 1000000 in
theorem sort_no (h : Hd) (a : Option Addr) (n c : Nat) (w : World) (hk : ¬ (0 ≤ h.k ∧ h.k ≤ 6)) :
    Calls Try.prog 47 #[valV h a n c] w fun r w' => r = .returned .nilIface ∧ Below w.heap.size w w' := by
  obtain ⟨k, m, e, t, na, nc, ns⟩ := h
  dsimp only at hk
  have h0 : (k == 0) = false := by simp; omega
  have h1 : (k == 1) = false := by simp; omega
  have h2 : (k == 2) = false := by simp; omega
  have h3 : (k == 3) = false := by simp; omega
  have h4 : (k == 4) = false := by simp; omega
  have h5 : (k == 5) = false := by simp; omega
  have h6 : (k == 6) = false := by simp; omega
  go_enter Try.func47, Try.ntmps47
  go_wp2_with fail
  go_ret
  exact ⟨rfl, (Below.refl _ w).alloc (Nat.le_refl _) _⟩
set_option maxHeartbeats 1000000 in
theorem nullSortValue_any (w : World) :
    Calls Try.prog 138 #[.agg #[]] w fun r w' => r = .returned (valV ⟨0, 0, 0, ⟨#[]⟩, none, 0, []⟩ none 0 0) ∧ Below w.heap.size w w' := by
  go_enter Try.func138, Try.ntmps138
  go_wp2_with fail
  exact bodyPost_ret (v := valV ⟨0, 0, 0, ⟨#[]⟩, none, 0, []⟩ none 0 0) (by simp [results, Try.results138, go_sem]) rfl ⟨rfl, (by (repeat' (first | assumption | exact Below.refl _ _ | refine Below.alloc ?_ ?_ _ | refine Below.setCell ?_ ?_ _ | refine Below.drew ?_ | refine below_drewN ?_ _)) <;> (first | omega | (simp <;> omega)))⟩
set_option maxHeartbeats 1000000 in
theorem truthSortValue_any (q : Bool) (w : World) :
    Calls Try.prog 140 #[.bool q] w fun r w' => r = .returned (valV ⟨if q then 1 else 2, 0, 0, ⟨#[]⟩, none, 0, []⟩ none 0 0) ∧ Below w.heap.size w w' := by
  cases q
  all_goals
    go_enter Try.func140, Try.ntmps140
    go_wp2_with fail
    refine bodyPost_ret (by simp [results, Try.results140, go_sem]) rfl ⟨rfl, (by (repeat' (first | assumption | exact Below.refl _ _ | refine Below.alloc ?_ ?_ _ | refine Below.setCell ?_ ?_ _ | refine Below.drew ?_ | refine below_drewN ?_ _)) <;> (first | omega | (simp <;> omega)))⟩
set_option maxHeartbeats 1000000 in
theorem numSortValue_any (m e : Int) (w : World) :
    Calls Try.prog 142 #[.agg #[.int .i64 m, .int .i64 e]] w fun r w' => r = .returned (valV ⟨3, m, e, ⟨#[]⟩, none, 0, []⟩ none 0 0) ∧ Below w.heap.size w w' := by
  go_enter Try.func142, Try.ntmps142
  go_wp2_with fail
  exact bodyPost_ret (v := valV ⟨3, m, e, ⟨#[]⟩, none, 0, []⟩ none 0 0) (by simp [results, Try.results142, go_sem]) rfl ⟨rfl, (by (repeat' (first | assumption | exact Below.refl _ _ | refine Below.alloc ?_ ?_ _ | refine Below.setCell ?_ ?_ _ | refine Below.drew ?_ | refine below_drewN ?_ _)) <;> (first | omega | (simp <;> omega)))⟩
set_option maxHeartbeats 1000000 in
theorem textSortValue_any (t : ByteArray) (w : World) :
    Calls Try.prog 144 #[.string t] w fun r w' => r = .returned (valV ⟨4, 0, 0, t, none, 0, []⟩ none 0 0) ∧ Below w.heap.size w w' := by
  go_enter Try.func144, Try.ntmps144
  go_wp2_with fail
  exact bodyPost_ret (v := valV ⟨4, 0, 0, t, none, 0, []⟩ none 0 0) (by simp [results, Try.results144, go_sem]) rfl ⟨rfl, (by (repeat' (first | assumption | exact Below.refl _ _ | refine Below.alloc ?_ ?_ _ | refine Below.setCell ?_ ?_ _ | refine Below.drew ?_ | refine below_drewN ?_ _)) <;> (first | omega | (simp <;> omega)))⟩
set_option maxHeartbeats 1000000 in
theorem arraySortValue_any (a : Option Addr) (n c : Nat) (w : World) :
    Calls Try.prog 147 #[.slice a n c] w fun r w' => r = .returned (valV ⟨5, 0, 0, ⟨#[]⟩, none, 0, []⟩ a n c) ∧ Below w.heap.size w w' := by
  go_enter Try.func147, Try.ntmps147
  go_wp2_with fail
  exact bodyPost_ret (v := valV ⟨5, 0, 0, ⟨#[]⟩, none, 0, []⟩ a n c) (by simp [results, Try.results147, go_sem]) rfl ⟨rfl, (by (repeat' (first | assumption | exact Below.refl _ _ | refine Below.alloc ?_ ?_ _ | refine Below.setCell ?_ ?_ _ | refine Below.drew ?_ | refine below_drewN ?_ _)) <;> (first | omega | (simp <;> omega)))⟩
set_option maxHeartbeats 1000000 in
theorem objectSortValue_any (na : Option Addr) (nc : Nat) (ns : List ByteArray) (a : Option Addr) (n c : Nat) (w : World) :
    Calls Try.prog 149 #[.agg #[.slice na ns.length nc, .slice a n c]] w fun r w' => r = .returned (valV ⟨6, 0, 0, ⟨#[]⟩, na, nc, ns⟩ a n c) ∧ Below w.heap.size w w' := by
  go_enter Try.func149, Try.ntmps149
  go_wp2_with fail
  exact bodyPost_ret (v := valV ⟨6, 0, 0, ⟨#[]⟩, na, nc, ns⟩ a n c) (by simp [results, Try.results149, go_sem]) rfl ⟨rfl, (by (repeat' (first | assumption | exact Below.refl _ _ | refine Below.alloc ?_ ?_ _ | refine Below.setCell ?_ ?_ _ | refine Below.drew ?_ | refine below_drewN ?_ _)) <;> (first | omega | (simp <;> omega)))⟩
set_option maxHeartbeats 1000000 in
theorem nullSortFits_any (w : World) :
    Calls Try.prog 137 #[.agg #[]] w fun r w' => (∃ q : Bool, r = .returned (.bool q) ∧ q = true) ∧ Below w.heap.size w w' := by
  go_enter Try.func137, Try.ntmps137
  go_wp2_with fail
  go_ret
  exact ⟨⟨true, rfl, rfl⟩, (by (repeat' (first | assumption | exact Below.refl _ _ | refine Below.alloc ?_ ?_ _ | refine Below.setCell ?_ ?_ _ | refine Below.drew ?_ | refine below_drewN ?_ _)) <;> (first | omega | (simp <;> omega)))⟩
set_option maxHeartbeats 1000000 in
theorem truthSortFits_any (q : Bool) (w : World) :
    Calls Try.prog 139 #[.bool q] w fun r w' => (∃ q : Bool, r = .returned (.bool q) ∧ q = true) ∧ Below w.heap.size w w' := by
  go_enter Try.func139, Try.ntmps139
  go_wp2_with fail
  go_ret
  exact ⟨⟨true, rfl, rfl⟩, (by (repeat' (first | assumption | exact Below.refl _ _ | refine Below.alloc ?_ ?_ _ | refine Below.setCell ?_ ?_ _ | refine Below.drew ?_ | refine below_drewN ?_ _)) <;> (first | omega | (simp <;> omega)))⟩
set_option maxHeartbeats 1000000 in
theorem arraySortFits_any (a : Option Addr) (n c : Nat) (w : World) :
    Calls Try.prog 146 #[.slice a n c] w fun r w' => (∃ q : Bool, r = .returned (.bool q) ∧ q = true) ∧ Below w.heap.size w w' := by
  go_enter Try.func146, Try.ntmps146
  go_wp2_with fail
  go_ret
  exact ⟨⟨true, rfl, rfl⟩, (by (repeat' (first | assumption | exact Below.refl _ _ | refine Below.alloc ?_ ?_ _ | refine Below.setCell ?_ ?_ _ | refine Below.drew ?_ | refine below_drewN ?_ _)) <;> (first | omega | (simp <;> omega)))⟩
set_option maxHeartbeats 1000000 in
theorem numSortFits_any (m e : Int) (w : World) :
    Calls Try.prog 141 #[.agg #[.int .i64 m, .int .i64 e]] w fun r w' => (∃ q : Bool, r = .returned (.bool q) ∧ q = Dm.ok m e) ∧ Below w.heap.size w w' := by
  have hB0 := (Below.refl _ w).alloc (Nat.le_refl _) (.cells #[.int .i64 m, .int .i64 e] 103)
  go_enter Try.func141, Try.ntmps141
  go_wp2_with fail
  refine (iDecOk_any m e _).mono ?_
  rintro r w1 ⟨rfl, hb1⟩
  have hB1 := hB0.trans (hb1.mono hB0.size)
  go_wp2_with fail
  go_ret
  exact ⟨⟨_, rfl, rfl⟩, hB1⟩
set_option maxHeartbeats 1000000 in
theorem textSortFits_any (t : ByteArray) (w : World) (ht : t.size ≤ maxLen) :
    Calls Try.prog 143 #[.string t] w fun r w' => (∃ q : Bool, r = .returned (.bool q) ∧ q = decide (t.size ≤ 1500)) ∧ Below w.heap.size w w' := by
  go_enter Try.func143, Try.ntmps143
  go_wp2_with fail
  refine (shortText_any t w ht).mono ?_
  rintro r w1 ⟨rfl, rfl⟩
  go_wp2_with fail
  go_ret
  exact ⟨⟨_, rfl, rfl⟩, Below.refl _ _⟩
/-- what fits says, of a value of a sort -/
def FitOf (P : Bool → Prop) (s : Bool) (r : Ending) : Prop := ∃ q : Bool, r = .returned (.bool q) ∧ ((P false ∧ q = false) ∨ (P true ∧ q = s))
set_option maxRecDepth 100000 in
set_option maxHeartbeats 1000000 in
theorem fits_of {h g : Hd} {a ga : Option Addr} {n c gn gc T fid vid : Nat} {sv : Value} {P : Bool → Prop} (w : World) (hh : h.In w)
    (hs : ∀ W, Calls Try.prog 47 #[valV h a n c] W fun r w' => r = .returned (.iface T sv) ∧ Below W.heap.size W w')
    (he1 : ∀ args w, (callFunc fid args).run Try.prog w = .ok (.enter fid args) w) (he2 : ∀ args w, (callFunc vid args).run Try.prog w = .ok (.enter vid args) w)
    (hm1 : ∀ W', (method 273 T sv "loop.example/chancery/impl.fits").run Try.prog W' = .ok (fid, sv) W') (hm2 : ∀ W', (method 273 T sv "loop.example/chancery/impl.value").run Try.prog W' = .ok (vid, sv) W')
    (hfits : ∀ W', Below w.heap.size w W' → Calls Try.prog fid #[sv] W' fun r w' => (∃ q : Bool, r = .returned (.bool q) ∧ P q) ∧ Below W'.heap.size W' w')
    (hval : ∀ W', Calls Try.prog vid #[sv] W' fun r w' => r = .returned (valV g ga gn gc) ∧ Below W'.heap.size W' w') (hg : ∀ W', Below w.heap.size w W' → g.In W') :
    Calls Try.prog 25 #[valV h a n c] w fun r w' => FitOf P (headSameV h n g gn) r ∧ Below w.heap.size w w' := by
  have hB0 := (Below.refl _ w).alloc (Nat.le_refl _) (.cells #[.int .i64 h.k, .int .i64 h.m, .int .i64 h.e, .string h.t, .slice a n c, .slice h.na h.ns.length h.nc] 28)
  have X0 := BxV.new w h (.slice a n c) 28
  go_enter Try.func25, Try.ntmps25
  go_wp2_with fail
  refine (hs _).mono ?_
  rintro r w1 ⟨rfl, hb1⟩
  have hB1 := hB0.trans (hb1.mono hB0.size)
  have X1 := X0.below hb1
  clear X0 hB0 hb1 hs
  go_wp2_with fail
  refine ft2 (P := P) (P2 := fun q => q = headSameV h n g gn) X1 he1 he2 hm1 hm2 (fun W' hW => hfits W' (hB1.trans (hW.mono hB1.size))) (fun W' _ => hval W') (fun W' hW => ?_) (fun _ d _ _ _ h => by cases d <;> exact h) ?_
  · have hq := hB1.trans (hW.mono hB1.size)
    refine (sameHeadV_any h g a ga n c gn gc W' (hh.grow hq) (hg W' hq)).mono ?_
    rintro r w' ⟨rfl, hb'⟩
    exact ⟨⟨_, rfl, rfl⟩, hb'⟩
  · intro ws q v6 v7 v8 v9 v10 v11 v12 v13 v14 v15 v16 v17 hq hb2
    have hB2 := hB1.trans (hb2.mono hB1.size)
    have HQ : Hid ((P false ∧ q = false) ∨ (P true ∧ q = headSameV h n g gn)) := hq
    clear hq X1 he1 he2 hm1 hm2 hfits hval hg
    go_wp2_with fail
    go_ret
    exact ⟨⟨q, rfl, HQ.out⟩, hB2⟩
theorem headSame_true {h g : Hd} {n m : Nat} : headSameV h n g m = true ↔ h.same g ∧ n = m := by unfold headSameV; exact decide_eq_true_iff
theorem fitOf_says {P : Bool → Prop} {s : Bool} {p : Prop} (h1 : P false → ¬ p) (h2 : P true → (s = true ↔ p)) {r : Ending} (h : FitOf P s r) : SaysT p r := by
  obtain ⟨q, rfl, h⟩ := h
  rcases h with ⟨a, e⟩ | ⟨a, e⟩
  · rw [e]; exact ⟨false, rfl, fun e => (by cases e), fun e => absurd e (h1 a)⟩
  · rw [e]; exact ⟨s, rfl, h2 a⟩
theorem empty_in (k m e : Int) (t : ByteArray) (ht : t.size ≤ maxLen) (W : World) : Hd.In W ⟨k, m, e, t, none, 0, []⟩ := ⟨.inl rfl, ⟨Nat.le_refl _, by show 0 ≤ maxLen; omega⟩, ht⟩
theorem empty_size : (⟨#[]⟩ : ByteArray).size ≤ maxLen := by show 0 ≤ maxLen; omega
set_option maxRecDepth 100000 in
set_option maxHeartbeats 1000000 in
theorem fits_any (h : Hd) (a : Option Addr) (n c : Nat) (w : World) (hh : h.In w) :
    Calls Try.prog 25 #[valV h a n c] w fun r w' => SaysT (one h n) r ∧ Below w.heap.size w w' := by
  obtain ⟨k, m, e, t, na, nc, ns⟩ := h
  have ht : t.size ≤ maxLen := hh.2.2
  by_cases hk : 0 ≤ k ∧ k ≤ 6
  · have hc : k = 0 ∨ k = 1 ∨ k = 2 ∨ k = 3 ∨ k = 4 ∨ k = 5 ∨ k = 6 := by omega
    clear hk
    rcases hc with rfl | rfl | rfl | rfl | rfl | rfl | rfl
    · refine (fits_of (T := 97) w hh (fun W => sort_0 ⟨0, m, e, t, na, nc, ns⟩ a n c W rfl) (enters_of Try.func137 (by kernel_rfl) rfl) (enters_of Try.func138 (by kernel_rfl) rfl) (fun W' => by kernel_rfl) (fun W' => by kernel_rfl) (fun W' hW => nullSortFits_any W') (fun W' => nullSortValue_any W') (fun W' hW => empty_in _ _ _ _ empty_size W')).mono ?_
      rintro r w' ⟨hr, hb⟩
      exact ⟨fitOf_says (fun q => (by cases q)) (fun _ => by rw [headSame_true]; simp [one, Hd.same, and_assoc]) hr, hb⟩
    · refine (fits_of (T := 102) w hh (fun W => sort_1 ⟨1, m, e, t, na, nc, ns⟩ a n c W rfl) (enters_of Try.func139 (by kernel_rfl) rfl) (enters_of Try.func140 (by kernel_rfl) rfl) (fun W' => by kernel_rfl) (fun W' => by kernel_rfl) (fun W' hW => truthSortFits_any true W') (fun W' => truthSortValue_any true W') (fun W' hW => empty_in _ _ _ _ empty_size W')).mono ?_
      rintro r w' ⟨hr, hb⟩
      exact ⟨fitOf_says (fun q => (by cases q)) (fun _ => by rw [headSame_true]; simp [one, Hd.same, and_assoc]) hr, hb⟩
    · refine (fits_of (T := 102) w hh (fun W => sort_2 ⟨2, m, e, t, na, nc, ns⟩ a n c W rfl) (enters_of Try.func139 (by kernel_rfl) rfl) (enters_of Try.func140 (by kernel_rfl) rfl) (fun W' => by kernel_rfl) (fun W' => by kernel_rfl) (fun W' hW => truthSortFits_any false W') (fun W' => truthSortValue_any false W') (fun W' hW => empty_in _ _ _ _ empty_size W')).mono ?_
      rintro r w' ⟨hr, hb⟩
      exact ⟨fitOf_says (fun q => (by cases q)) (fun _ => by rw [headSame_true]; simp [one, Hd.same, and_assoc]) hr, hb⟩
    · refine (fits_of (T := 103) w hh (fun W => sort_3 ⟨3, m, e, t, na, nc, ns⟩ a n c W rfl) (enters_of Try.func141 (by kernel_rfl) rfl) (enters_of Try.func142 (by kernel_rfl) rfl) (fun W' => by kernel_rfl) (fun W' => by kernel_rfl) (fun W' hW => numSortFits_any m e W') (fun W' => numSortValue_any m e W') (fun W' hW => empty_in _ _ _ _ empty_size W')).mono ?_
      rintro r w' ⟨hr, hb⟩
      exact ⟨fitOf_says (fun q => by simp [one, ← q]) (fun q => by rw [headSame_true]; simp [one, Hd.same, and_assoc, ← q]) hr, hb⟩
    · refine (fits_of (T := 105) w hh (fun W => sort_4 ⟨4, m, e, t, na, nc, ns⟩ a n c W rfl) (enters_of Try.func143 (by kernel_rfl) rfl) (enters_of Try.func144 (by kernel_rfl) rfl) (fun W' => by kernel_rfl) (fun W' => by kernel_rfl) (fun W' hW => textSortFits_any t W' ht) (fun W' => textSortValue_any t W') (fun W' hW => empty_in _ _ _ _ ht W')).mono ?_
      rintro r w' ⟨hr, hb⟩
      exact ⟨fitOf_says (fun q => by have := of_decide_eq_false q.symm; simp [one]; intro x; omega) (fun q => by have := of_decide_eq_true q.symm; rw [headSame_true]; simp [one, Hd.same, and_assoc, this]) hr, hb⟩
    · refine (fits_of (T := 107) w hh (fun W => sort_5 ⟨5, m, e, t, na, nc, ns⟩ a n c W rfl) (enters_of Try.func146 (by kernel_rfl) rfl) (enters_of Try.func147 (by kernel_rfl) rfl) (fun W' => by kernel_rfl) (fun W' => by kernel_rfl) (fun W' hW => arraySortFits_any a n c W') (fun W' => arraySortValue_any a n c W') (fun W' hW => empty_in _ _ _ _ empty_size W')).mono ?_
      rintro r w' ⟨hr, hb⟩
      exact ⟨fitOf_says (fun q => (by cases q)) (fun _ => by rw [headSame_true]; simp [one, Hd.same, and_assoc]) hr, hb⟩
    · refine (fits_of (T := 110) w hh (fun W => sort_6 ⟨6, m, e, t, na, nc, ns⟩ a n c W rfl) (enters_of Try.func148 (by kernel_rfl) rfl) (enters_of Try.func149 (by kernel_rfl) rfl) (fun W' => by kernel_rfl) (fun W' => by kernel_rfl) (fun W' hW => objFits_any ns na nc a n c W' (hh.1.grow hW) hh.2.1.1 hh.2.1.2) (fun W' => objectSortValue_any na nc ns a n c W') (fun W' hW => ⟨hh.1.grow hW, hh.2.1, empty_size⟩)).mono ?_
      rintro r w' ⟨hr, hb⟩
      exact ⟨fitOf_says (fun q => by simp only [Bool.false_eq_true, false_iff] at q; simp [one]; intro x y; exact absurd ⟨x, y⟩ q) (fun q => by have hq := q.1 rfl; rw [headSame_true]; simp [one, Hd.same, and_assoc, hq.1]; intro _ _ _; have h2 := hq.2; rwa [hq.1] at h2) hr, hb⟩
  · have hno : ¬ one ⟨k, m, e, t, na, nc, ns⟩ n := by
      unfold one
      dsimp only
      intro h
      rcases h with ⟨h, _⟩ | ⟨h, _⟩ | ⟨h, _⟩ | ⟨h, _⟩ | ⟨h, _⟩ <;> omega
    have hB0 := (Below.refl _ w).alloc (Nat.le_refl _) (.cells #[.int .i64 k, .int .i64 m, .int .i64 e, .string t, .slice a n c, .slice na ns.length nc] 28)
    have HNO : Hid (¬ one ⟨k, m, e, t, na, nc, ns⟩ n) := hno
    clear hno
    go_enter Try.func25, Try.ntmps25
    go_wp2_with fail
    refine (sort_no ⟨k, m, e, t, na, nc, ns⟩ a n c _ hk).mono ?_
    rintro r w1 ⟨rfl, hb1⟩
    have hB1 := hB0.trans (hb1.mono hB0.size)
    go_wp2_with fail
    refine ft2n (fun _ d _ _ _ h => by cases d <;> exact h) ?_
    intro ws v6 v7 v8 v9 v10 v11 v12 v13 v14 v15 v16 v17 hb2
    have hB2 := hB1.trans (hb2.mono hB1.size)
    go_wp2_with fail
    go_ret
    exact ⟨⟨false, rfl, fun h => (by cases h), fun h => absurd h HNO.out⟩, hB2⟩
end Go.Proofs.Ytalncebnahlmdaa
/- The iterator over a value and all in it. -/
namespace Go.Proofs.Ytalncebnahlmdaa
open Go.RowKit Go.Shelf
attribute [local go_sem] Oper.semAt_some
/-- the values of a list and all in them, each ahead of those in it, with how deep it stands -/
def Vo.flat : Vo → Nat → List (Nat × Hd × Vo)
  | .nil, _ => []
  | .cons h _ _ kids next, d => (d, h, kids) :: (kids.flat (d + 1) ++ next.flat d)
theorem Vo.flat_len : ∀ (F : Vo) (d : Nat), (F.flat d).length = F.size := by
  intro F
  induction F with
  | nil => intro d; rfl
  | cons h a c kids next ih1 ih2 => intro d; show ((d, h, kids) :: (kids.flat (d + 1) ++ next.flat d)).length = kids.size + 1 + next.size; simp [ih1, ih2]; omega
theorem SFrom.sub {w w' : World} (h : Sub w w') : ∀ {ss : List ByteArray} {b o : Nat}, SFrom w ss b o → SFrom w' ss b o := by
  intro ss
  induction ss with
  | nil => intro b o _; trivial
  | cons s t ih => rintro b o ⟨h1, h2, h3⟩; exact ⟨h _ _ _ h1, h2, ih h3⟩
theorem Hd.In.sub {w w' : World} {x : Hd} (y : x.In w) (h : Sub w w') : x.In w' := by
  refine ⟨?_, y.2⟩
  rcases y.1 with y | ⟨b, o, e, y⟩
  · exact .inl y
  · exact .inr ⟨b, o, e, y.sub h⟩
/-- a value that is told, with how deep it stands; what is in it lies in the world w -/
structure TV (w : World) where
  d : Nat
  h : Hd
  a : Option Addr
  kids : Vo
  c : Nat
  hin : kids.In w a
  hl : kids.len ≤ c
  hc : c ≤ maxLen
  hh : h.In w
def TV.raw {w : World} (x : TV w) : Nat × Hd × Vo := (x.d, x.h, x.kids)
def TV.enc {w : World} (x : TV w) : Array Value := #[.int .i64 x.d, .agg #[.int .i64 x.h.k, .int .i64 x.h.m, .int .i64 x.h.e, .string x.h.t, .slice x.a x.kids.len x.c, .slice x.h.na x.h.ns.length x.h.nc]]
set_option maxRecDepth 100000 in
set_option maxHeartbeats 2000000 in
theorem tellV_in (w0 : World) (l n0 n1 N B : Nat) (J Jx : List (TV w0) → World → Prop) (hJ : AbidesFrom B J) (hn0 : w0.heap.size ≤ n0)
    (hY : ∀ (q : Nat) (pre : List (TV w0)) (x : TV w0) (W : World), J pre W → pre.length < N → YieldAt Fence.wide q Try.prog l x.enc W fun e W' =>
      (e = .returned (.bool true) ∧ J (pre ++ [x]) W' ∧ Kept n0 n1 W W') ∨ (e = .returned (.bool false) ∧ Jx (pre ++ [x]) W')) (M : Nat) :
    ∀ (n : Nat) (x : TV w0) (pre : List (TV w0)) (W : World), x.kids.size < M → x.d + x.kids.size ≤ 1000000000 → n1 ≤ W.heap.size → Sub w0 W → J pre W → pre.length + (x.kids.size + 1) ≤ N →
      CallsIn Fence.wide n Try.prog 46 #[.agg #[.int .i64 x.h.k, .int .i64 x.h.m, .int .i64 x.h.e, .string x.h.t, .slice x.a x.kids.len x.c, .slice x.h.na x.h.ns.length x.h.nc], .int .i64 x.d, .func (.yield l) #[] #[]] W fun e W' =>
        (e = .returned (.bool true) ∧ (∃ ys : List (TV w0), ys.map TV.raw = x.raw :: x.kids.flat (x.d + 1) ∧ J (pre ++ ys) W') ∧ Kept n0 n1 W W') ∨
        (e = .returned (.bool false) ∧ ∃ ys : List (TV w0), ys.map TV.raw <+: (x.raw :: x.kids.flat (x.d + 1)) ∧ Jx (pre ++ ys) W') := by
  induction M with
  | zero => intro n x pre W h; omega
  | succ M ih =>
    intro n x pre W hM hd hn1 hsub hJ0 hN
    have hcc := x.hc
    unfold maxLen at hcc
    have hlc := x.hl
    have hll := x.kids.len_le
    have hin := x.hin
    have hsz1 : W.heap.size < (W.alloc (.cells #[.int .i64 x.h.k, .int .i64 x.h.m, .int .i64 x.h.e, .string x.h.t, .slice x.a x.kids.len x.c, .slice x.h.na x.h.ns.length x.h.nc] 28)).heap.size := by simp
    have hb0 : Below W.heap.size W (W.alloc (.cells #[.int .i64 x.h.k, .int .i64 x.h.m, .int .i64 x.h.e, .string x.h.t, .slice x.a x.kids.len x.c, .slice x.h.na x.h.ns.length x.h.nc] 28)) := (Below.refl _ W).alloc (Nat.le_refl _) _
    have hJ1 := hJ _ _ _ none hJ0 (grown_below hb0) (fun r e => by cases e)
    obtain ⟨fn, tmps, assign, body, hy, hR⟩ := hY (n - 1) pre x _ hJ1 (by omega)
    dsimp only [TV.enc] at hy
    refine callsIn_of_wp Try.func46 rfl trivial ?_ rfl
    simp only [Try.ntmps46, List.size_toArray, List.length_cons, List.length_nil, Nat.reduceAdd, Nat.reduceSub, Array.replicate_succ, Array.replicate_zero, List.push_toArray, List.append_toArray, List.nil_append, List.cons_append]
    gi_wp2
    refine ⟨fun h => (by cases h), hR.mono ?_⟩
    clear hR hy
    have c0 : (W.alloc (.cells #[.int .i64 x.h.k, .int .i64 x.h.m, .int .i64 x.h.e, .string x.h.t, .slice x.a x.kids.len x.c, .slice x.h.na x.h.ns.length x.h.nc] 28)).cell? ⟨W.heap.size, 0, none⟩ = some (.int .i64 x.h.k) := by simp
    have c1 : (W.alloc (.cells #[.int .i64 x.h.k, .int .i64 x.h.m, .int .i64 x.h.e, .string x.h.t, .slice x.a x.kids.len x.c, .slice x.h.na x.h.ns.length x.h.nc] 28)).cell? ⟨W.heap.size, 1, none⟩ = some (.int .i64 x.h.m) := by simp
    have c2 : (W.alloc (.cells #[.int .i64 x.h.k, .int .i64 x.h.m, .int .i64 x.h.e, .string x.h.t, .slice x.a x.kids.len x.c, .slice x.h.na x.h.ns.length x.h.nc] 28)).cell? ⟨W.heap.size, 2, none⟩ = some (.int .i64 x.h.e) := by simp
    have c3 : (W.alloc (.cells #[.int .i64 x.h.k, .int .i64 x.h.m, .int .i64 x.h.e, .string x.h.t, .slice x.a x.kids.len x.c, .slice x.h.na x.h.ns.length x.h.nc] 28)).cell? ⟨W.heap.size, 3, none⟩ = some (.string x.h.t) := by simp
    have c4 : (W.alloc (.cells #[.int .i64 x.h.k, .int .i64 x.h.m, .int .i64 x.h.e, .string x.h.t, .slice x.a x.kids.len x.c, .slice x.h.na x.h.ns.length x.h.nc] 28)).cell? ⟨W.heap.size, 4, none⟩ = some (.slice x.a x.kids.len x.c) := by simp
    have c5 : (W.alloc (.cells #[.int .i64 x.h.k, .int .i64 x.h.m, .int .i64 x.h.e, .string x.h.t, .slice x.a x.kids.len x.c, .slice x.h.na x.h.ns.length x.h.nc] 28)).cell? ⟨W.heap.size, 5, none⟩ = some (.slice x.h.na x.h.ns.length x.h.nc) := by simp
    generalize W.alloc (.cells #[.int .i64 x.h.k, .int .i64 x.h.m, .int .i64 x.h.e, .string x.h.t, .slice x.a x.kids.len x.c, .slice x.h.na x.h.ns.length x.h.nc] 28) = W1 at *
    rintro r W2 (⟨rfl, hJ2, hk2⟩ | ⟨rfl, hx2⟩)
    · have d0 := hk2.cell c0 (.inr hn1)
      have d1 := hk2.cell c1 (.inr hn1)
      have d2 := hk2.cell c2 (.inr hn1)
      have d3 := hk2.cell c3 (.inr hn1)
      have d4 := hk2.cell c4 (.inr hn1)
      have d5 := hk2.cell c5 (.inr hn1)
      have K2 : Kept n0 n1 W W2 := (Kept.of_below hb0).trans hk2
      clear c0 c1 c2 c3 c4 c5 hJ1 hk2 hb0 hsz1 hJ0
      have hmeth := belowV_method
      gi_wp2
      refine ⟨trivial, fun h => (by cases h), (callsIn_wide.2 (belowV_any _ _ _ _ _)).mono ?_⟩
      rintro r W3 ⟨rfl, hb3⟩
      have hJ3 := hJ _ _ _ none hJ2 (grown_below hb3) (fun r e => by cases e)
      have K3 : Kept n0 n1 W W3 := K2.trans (Kept.of_below hb3)
      clear d0 d1 d2 d3 d4 d5 hb3 hJ2 K2 hmeth
      gi_wp2
      gi_loopw [18] (fun i wr => ∃ (j : Nat) (ys : List (TV w0)) (G : Vo), i = .int .i64 j ∧ j + G.len = x.kids.len ∧ G.size ≤ x.kids.size ∧ ys.map TV.raw ++ G.flat (x.d + 1) = x.raw :: x.kids.flat (x.d + 1) ∧ (G = .nil ∨ ∃ b o, x.a = some ⟨b, o, none⟩ ∧ G.From w0 b (o + j * 6)) ∧ J (pre ++ ys) wr ∧ Kept n0 n1 W wr) (fun i _ => x.kids.len - (intOf i).toNat)
      case atStart =>
        refine ⟨0, [x], x.kids, rfl, by omega, Nat.le_refl _, rfl, ?_, hJ3, K3⟩
        rcases hin with h | ⟨b, o, e1, e2⟩
        · exact .inl h
        · exact .inr ⟨b, o, e1, by simpa using e2⟩
      case round =>
        obtain ⟨j, ys, G, rfl, hj, hs, hflat, hG, hJs, hK⟩ := hrel
        cases G with
        | nil =>
          have hj' : j = x.kids.len := by simpa [Vo.len] using hj
          have hf' : ys.map TV.raw = x.raw :: x.kids.flat (x.d + 1) := by simpa [Vo.flat] using hflat
          have hlt : ¬ (j : Int) < (x.kids.len : Int) := by omega
          clear hG hj hflat
          gi_wp2
          refine bodyPost_ret (results_tmp rfl _ _ _) rfl (.inl ⟨rfl, ⟨ys, hf', hJs⟩, hK⟩)
        | cons h' a' c' kids next =>
          rcases hG with hG | ⟨b, o, ha, hcells, hk, ⟨hc1, hc2⟩, hh', hn⟩
          · cases hG
          have hln : j + (next.len + 1) = x.kids.len := hj
          have hsz : kids.size + 1 + next.size ≤ x.kids.size := hs
          have hlt : (j : Int) < (x.kids.len : Int) := by omega
          have hjl : j < x.kids.len := by omega
          have hyl : ys.length + (kids.size + 1 + next.size) = 1 + x.kids.size := by
            have := congrArg List.length hflat
            simp [Vo.flat_len] at this
            have h2 : (Vo.cons h' a' c' kids next).size = kids.size + 1 + next.size := rfl
            omega
          have hsubw : Sub w0 wr := hK.sub hsub hn0
          obtain ⟨h1, h2, h3, h4, h5, h6⟩ := hcells
          have g1 := hsubw _ _ _ h1
          have g2 := hsubw _ _ _ h2
          have g3 := hsubw _ _ _ h3
          have g4 := hsubw _ _ _ h4
          have g5 := hsubw _ _ _ h5
          have g6 := hsubw _ _ _ h6
          rw [ha] at *
          clear h1 h2 h3 h4 h5 h6 hj hs
          have hbA : Below wr.heap.size wr (wr.alloc (.cells #[.int .i64 h'.k, .int .i64 h'.m, .int .i64 h'.e, .string h'.t, .slice a' kids.len c', .slice h'.na h'.ns.length h'.nc] 28)) := (Below.refl _ wr).alloc (Nat.le_refl _) _
          have KA : Kept n0 n1 wr _ := Kept.of_below hbA
          have HI := ih (n - 1) ⟨x.d + 1, h', a', kids, c', hk, hc1, hc2, hh'⟩ (pre ++ ys) (wr.alloc (.cells #[.int .i64 h'.k, .int .i64 h'.m, .int .i64 h'.e, .string h'.t, .slice a' kids.len c', .slice h'.na h'.ns.length h'.nc] 28))
            (by show kids.size < M; omega) (by show x.d + 1 + kids.size ≤ 1000000000; omega) (by have := hK.1; simp; omega) (KA.sub hsubw hn0) (hJ _ _ _ none hJs (grown_below hbA) (fun r e => by cases e)) (by show (pre ++ ys).length + (kids.size + 1) ≤ N; rw [List.length_append]; omega)
          have hfl : ys.map TV.raw ++ ((x.d + 1, h', kids) :: (kids.flat (x.d + 1 + 1) ++ next.flat (x.d + 1))) = x.raw :: x.kids.flat (x.d + 1) := hflat
          gi_wp2
          refine ⟨trivial, fun h => (by cases h), HI.mono ?_⟩
          clear HI ih hflat g1 g2 g3 g4 g5 g6
          rintro r W4 (⟨rfl, ⟨zs, hz, hJz⟩, hKz⟩ | ⟨rfl, zs, hz, hxz⟩)
          · have hK4 : Kept n0 n1 W W4 := (hK.trans KA).trans hKz
            have hJ4 : J (pre ++ (ys ++ zs)) W4 := by rw [← List.append_assoc]; exact hJz
            have hf4 : (ys ++ zs).map TV.raw ++ next.flat (x.d + 1) = x.raw :: x.kids.flat (x.d + 1) := by
              rw [← hfl, List.map_append, hz]; simp [TV.raw]
            clear hJs hK KA hKz hJz hfl hz hsubw hbA
            gi_wp2
            go_roundw
            case rel =>
              refine ⟨j + 1, ys ++ zs, next, by go_num, by omega, by omega, hf4, .inr ⟨b, o, rfl, ?_⟩, hJ4, hK4⟩
              rw [show o + (j + 1) * 6 = o + j * 6 + 6 by omega]; exact hn
            case measure => simp [intOf]; omega
          · have hx4 : Jx (pre ++ (ys ++ zs)) W4 := by rw [← List.append_assoc]; exact hxz
            have hf4 : (ys ++ zs).map TV.raw <+: (x.raw :: x.kids.flat (x.d + 1)) := by
              obtain ⟨tl, htl⟩ := hz
              refine ⟨tl ++ next.flat (x.d + 1), ?_⟩
              rw [← hfl, List.map_append, List.append_assoc, ← List.append_assoc (zs.map TV.raw), htl]; simp [TV.raw]
            clear hJs hK KA hxz hfl hz hsubw hbA
            gi_wp2
            refine bodyPost_ret (results_tmp rfl _ _ _) rfl (.inr ⟨rfl, ys ++ zs, hf4, hx4⟩)
    · gi_wp2
      refine bodyPost_ret (results_tmp rfl _ _ _) rfl (.inr ⟨rfl, [x], ?_, hx2⟩)
      exact ⟨x.kids.flat (x.d + 1), rfl⟩

set_option maxHeartbeats 1000000 in
/-- the function that allOf hands back tells the value and all in it -/
theorem allV_stops (w0 : World) (n n0 n1 Bt : Nat) (x : TV w0) (w : World) (hd : x.d = 1) (hx : x.kids.size ≤ 2000000) (hn0 : w0.heap.size ≤ n0) (hn1 : n1 ≤ w.heap.size) (hsub : Sub w0 w)
    (c0 : w.cell? ⟨Bt, 0, none⟩ = some (.int .i64 x.h.k)) (c1 : w.cell? ⟨Bt, 1, none⟩ = some (.int .i64 x.h.m)) (c2 : w.cell? ⟨Bt, 2, none⟩ = some (.int .i64 x.h.e)) (c3 : w.cell? ⟨Bt, 3, none⟩ = some (.string x.h.t)) (c4 : w.cell? ⟨Bt, 4, none⟩ = some (.slice x.a x.kids.len x.c)) (c5 : w.cell? ⟨Bt, 5, none⟩ = some (.slice x.h.na x.h.ns.length x.h.nc)) :
    SeqStopsK Fence.wide n Try.prog 45 #[.pointer (some ⟨Bt, 0, none⟩)] (fun y : TV w0 => y.enc) (Kept n0 n1) (fun ys => ys.map TV.raw = x.raw :: x.kids.flat 2) (fun ys => ys.map TV.raw <+: (x.raw :: x.kids.flat 2)) (x.kids.size + 1) w := fun l J Jx W hW hJ hJx hY h0 => by
  have hB := World.block_lt_of_cell? w _ c0
  have C0 := (hW.cell (p := ⟨Bt, 0, none⟩) hB).trans c0
  have C1 := (hW.cell (p := ⟨Bt, 1, none⟩) hB).trans c1
  have C2 := (hW.cell (p := ⟨Bt, 2, none⟩) hB).trans c2
  have C3 := (hW.cell (p := ⟨Bt, 3, none⟩) hB).trans c3
  have C4 := (hW.cell (p := ⟨Bt, 4, none⟩) hB).trans c4
  have C5 := (hW.cell (p := ⟨Bt, 5, none⟩) hB).trans c5
  have hs := hW.size
  have HT := tellV_in w0 l n0 n1 (x.kids.size + 1) _ J Jx hJ hn0 (fun q pre y W1 h1 h2 => yieldAt_any rfl q (hY pre y W1 h1 h2)) (x.kids.size + 1) (n - 1) x [] W (by omega) (by omega) (by omega) (fun b o v hv => (hW.cell (p := ⟨b, o, none⟩) (World.block_lt_of_cell? _ _ (hsub b o v hv))).trans (hsub b o v hv)) h0 (by simp)
  rw [hd] at HT
  clear c0 c1 c2 c3 c4 c5 hY
  refine callsIn_of_wp Try.func45 rfl trivial ?_ rfl
  simp only [Try.ntmps45, List.size_toArray, List.length_cons, List.length_nil, Nat.reduceAdd, Nat.reduceSub, Array.replicate_succ, Array.replicate_zero, List.push_toArray, List.append_toArray, List.nil_append, List.cons_append]
  gi_wp2
  refine ⟨trivial, fun h => (by cases h), HT.mono ?_⟩
  clear HT
  rintro r W1 (⟨rfl, ⟨ys, hz, hJz⟩, _⟩ | ⟨rfl, ys, hz, hxz⟩)
  · gi_wp2
    go_end0
    exact ⟨⟨_, rfl⟩, .inl ⟨ys, hz, by simpa using hJz⟩⟩
  · gi_wp2
    go_end0
    exact ⟨⟨_, rfl⟩, .inr ⟨ys, hz, by simpa using hxz⟩⟩

set_option maxHeartbeats 400000 in
theorem allOfV_any (h : Hd) (a : Option Addr) (n c : Nat) (w : World) :
    Calls Try.prog 24 #[valV h a n c] w fun r w' => r = .returned (.func (.func 45) #[] #[.pointer (some ⟨w.heap.size, 0, none⟩)]) ∧ w' = w.alloc (.cells #[.int .i64 h.k, .int .i64 h.m, .int .i64 h.e, .string h.t, .slice a n c, .slice h.na h.ns.length h.nc] 28) := by
  go_enter Try.func24, Try.ntmps24
  go_wp2_with fail
  go_ret
  exact ⟨rfl, rfl⟩
end Go.Proofs.Ytalncebnahlmdaa
