/- My own texts, joined: Ij Tc LFnTomlNot. -/
import Derived.Test.YtfgchdnpbbgmjaaJFnTomlNot17
import Derived.Test.YtfgchdnpbbgmjaaJFnTomlNot16
import Derived.Test.YtfgchdnpbbgmjaaJFnTomlNot9
import Derived.Test.YtfgchdnpbbgmjaaJFnTomlNot12
/- Values as lines, by the program: TomlPut. -/
namespace Go.Proofs.Ytfgchdnpbbgmjaa
open Go.RowKit
attribute [local go_sem] cell_alloc_is frozen_alloc_is
set_option maxRecDepth 100000 in
set_option maxHeartbeats 1000000 in
theorem newLinesWriter_any (kb : Nat) (w : World) :
    Calls Try.prog 51 #[.pointer (some ⟨kb, 0, none⟩)] w fun e w' => e = .returned (wrV kb ⟨#[]⟩ ⟨#[]⟩) ∧ Below w.heap.size w w' := by
  go_enter Try.func51, Try.ntmps51
  go_wp2_with fail
  obtain ⟨W1, hW1⟩ : ∃ W1, w.alloc (.cells #[.pointer none, .string ⟨#[]⟩, .string ⟨#[]⟩, .string ⟨#[]⟩, .int .i64 0, .string ⟨#[]⟩, .string ⟨#[]⟩] 78) = W1 := ⟨_, rfl⟩
  have R1 : Row W1 w.heap.size [.pointer none, .string ⟨#[]⟩, .string ⟨#[]⟩, .string ⟨#[]⟩, .int .i64 0, .string ⟨#[]⟩, .string ⟨#[]⟩] := by rw [← hW1]; exact Row.new w [.pointer none, .string ⟨#[]⟩, .string ⟨#[]⟩, .string ⟨#[]⟩, .int .i64 0, .string ⟨#[]⟩, .string ⟨#[]⟩] 78
  have hB1 : Below w.heap.size w W1 := by rw [← hW1]; exact (Below.refl _ w).alloc (Nat.le_refl _) _
  rw [hW1]
  clear hW1
  refine (newJsonWriter_any kb _).mono ?_
  rintro e w2 ⟨rfl, hb2⟩
  have R2 := R1.below hb2 R1.lt
  have hB2 := hB1.trans (hb2.mono hB1.size)
  obtain ⟨y0, z0⟩ := R2 0 _ rfl
  obtain ⟨y1, z1⟩ := R2 1 _ rfl
  obtain ⟨y2, z2⟩ := R2 2 _ rfl
  obtain ⟨y3, z3⟩ := R2 3 _ rfl
  obtain ⟨y4, z4⟩ := R2 4 _ rfl
  obtain ⟨y5, z5⟩ := R2 5 _ rfl
  obtain ⟨y6, z6⟩ := R2 6 _ rfl
  clear hb2 hB1 R1
  go_wp2_with fail
  have R3 := (((((((R2.set (i := 0) (by simp) (.pointer (some ⟨kb, 0, none⟩))).set (i := 1) (by simp) (.string ⟨#[92, 117, 48, 48]⟩)).set (i := 2) (by simp) (.string ⟨#[34, 92, 47, 98, 102, 110, 114, 116]⟩)).set (i := 3) (by simp) (.string ⟨#[34, 92, 47, 8, 12, 10, 13, 9]⟩)).set (i := 4) (by simp) (.int .i64 2)).set (i := 5) (by simp) (.string ⟨#[]⟩)).set (i := 6) (by simp) (.string ⟨#[]⟩))
  have hB3 := (((((((hB2.setCell (p := ⟨w.heap.size, 0, none⟩) (Nat.le_refl _) (.pointer (some ⟨kb, 0, none⟩))).setCell (p := ⟨w.heap.size, 1, none⟩) (Nat.le_refl _) (.string ⟨#[92, 117, 48, 48]⟩)).setCell (p := ⟨w.heap.size, 2, none⟩) (Nat.le_refl _) (.string ⟨#[34, 92, 47, 98, 102, 110, 114, 116]⟩)).setCell (p := ⟨w.heap.size, 3, none⟩) (Nat.le_refl _) (.string ⟨#[34, 92, 47, 8, 12, 10, 13, 9]⟩)).setCell (p := ⟨w.heap.size, 4, none⟩) (Nat.le_refl _) (.int .i64 2)).setCell (p := ⟨w.heap.size, 5, none⟩) (Nat.le_refl _) (.string ⟨#[]⟩)).setCell (p := ⟨w.heap.size, 6, none⟩) (Nat.le_refl _) (.string ⟨#[]⟩))
  revert R3 hB3
  generalize (((((((w2.setCell _ _).setCell _ _).setCell _ _).setCell _ _).setCell _ _).setCell _ _).setCell _ _) = w9
  intro R3 hB3
  have c0 := (R3 0 _ rfl).1
  have c1 := (R3 1 _ rfl).1
  have c2 := (R3 2 _ rfl).1
  have c3 := (R3 3 _ rfl).1
  have c4 := (R3 4 _ rfl).1
  have c5 := (R3 5 _ rfl).1
  have c6 := (R3 6 _ rfl).1
  exact bodyPost_ret (v := wrV kb ⟨#[]⟩ ⟨#[]⟩) (by simp [results, Try.results51, go_sem, c0, c1, c2, c3, c4, c5, c6]) rfl ⟨rfl, hB3⟩
set_option maxRecDepth 100000 in
set_option maxHeartbeats 1000000 in
theorem lp4 {Q : Exit → Act → World → Prop} {t0 t1 t3 t4 t5 t7 t8 t9 t10 t11 t12 t13 t14 t15 t16 t17 t18 t19 : Value} {W : World} {bv B kb : Nat} {hd : Hd} {a : Option Addr} {c : Nat} {F : Vo} {L : List UInt8}
    (hA : BxV bv hd (.slice a F.len c) W) (hcall : ∀ W', Below W.heap.size W W' → Calls Try.prog 52 #[wrV kb ⟨#[]⟩ ⟨#[]⟩, valV hd a F.len c, .string ⟨#[]⟩] W' fun r w' => r = .returned (.tuple #[]) ∧ Wr B kb W' L w') (hbv : bv < B) (hBW : B ≤ W.heap.size)
    (hp : ∀ p d v a w, Q (.panic p) (Act.put a d v) w → Q (.panic p) a w) (h_ : ∀ ws v16 v17 v18, (Wr B kb W L ws) → Q .normal { tmps := (t0 :: t1 :: (.pointer (some ⟨bv, 0, none⟩)) :: t3 :: t4 :: t5 :: (.pointer (some ⟨kb, 0, none⟩)) :: t7 :: t8 :: t9 :: t10 :: t11 :: t12 :: t13 :: t14 :: t15 :: v16 :: v17 :: v18 :: t19 :: []).toArray, defers := [] } ws) :
    Code.wp Try.prog (Code.region 4 #[{ dst := some 16, op := Op.call { callee := Callee.value (Operand.func 51), args := #[Operand.tmp 6], argTypes := #[70] }, type := 78, pos := "l12_out.go:82", after := #[], guard := none }, { dst := some 17, op := Op.load 28 (Operand.tmp 2), type := 28, pos := "l12_out.go:82", after := #[], guard := none }, { dst := some 18, op := Op.call { callee := Callee.value (Operand.func 52), args := #[Operand.tmp 16, Operand.tmp 17, Operand.const (Value.string { data := #[] })], argTypes := #[78, 28, 9] }, type := 0, pos := "l12_out.go:82", after := #[{ on := 0, ground := Ground.data }, { on := 1, ground := Ground.data }, { on := 0, ground := Ground.chain }], guard := none }] true) Q { tmps := (t0 :: t1 :: (.pointer (some ⟨bv, 0, none⟩)) :: t3 :: t4 :: t5 :: (.pointer (some ⟨kb, 0, none⟩)) :: t7 :: t8 :: t9 :: t10 :: t11 :: t12 :: t13 :: t14 :: t15 :: t16 :: t17 :: t18 :: t19 :: []).toArray, defers := [] } W := by
  have HSof : Hid (∀ w', Below W.heap.size W w' → BxV bv hd (.slice a F.len c) w') := fun w' h => hA.below h
  have hB0 := (Below.refl W.heap.size W).drew
  have hS0 := HSof.out _ hB0
  clear hA
  refine wp_region_held_drew (S := fun w' => BxV bv hd (.slice a F.len c) w') (by kernel_rfl) hS0 (fun hHeld => ?_)
  refine wpAnyH_take (i := 1) (v := valV hd a F.len c) rfl (by kernel_rfl) (by kernel_rfl) (by kernel_rfl) (fun _ _ _ h => hp _ _ _ _ _ h) (Or.inl ⟨by rfl, ?_⟩) (by assumption) ?_
  · intro w hSw
    (try dsimp only at hSw)
    go_simp
  (try simp only [Act.put, List.getElem_toArray, List.getElem_cons_zero, List.getElem_cons_succ, List.setIfInBounds_toArray, List.set_cons_zero, List.set_cons_succ])
  refine wpAnyH_ready (rs := [0]) (by kernel_rfl) (by simp) ?_
  refine AllReadyH.cons rfl (fun K hK => ?_) AllReadyH.nil
  go_simp
  refine (newLinesWriter_any kb _).mono ?_
  rintro r w1 ⟨rfl, hb1⟩
  have hB1 := hB0.trans (hb1.mono hB0.size)
  go_wp2_with fail
  refine hK.out _ _ (HSof.out _ hB1) (fun hHeld => ?_)
  clear hK K hb1 hB0
  refine wpAnyH_ready (rs := [2]) (by kernel_rfl) (by simp) ?_
  refine AllReadyH.cons rfl (fun K hK => ?_) AllReadyH.nil
  go_simp
  refine (hcall _ hB1).mono ?_
  rintro r w2 ⟨rfl, hw2⟩
  have hS2 := hideIt (show BxV bv hd (.slice a F.len c) w2 from by
    have h1 := HSof.out _ hB1
    have hb := hw2.2.1
    obtain ⟨y0, y1, y2, y3, y4, y5⟩ := h1
    exact ⟨(hb.cell (p := ⟨bv, 0, none⟩) hbv).trans y0, (hb.cell (p := ⟨bv, 1, none⟩) hbv).trans y1, (hb.cell (p := ⟨bv, 2, none⟩) hbv).trans y2, (hb.cell (p := ⟨bv, 3, none⟩) hbv).trans y3, (hb.cell (p := ⟨bv, 4, none⟩) hbv).trans y4, (hb.cell (p := ⟨bv, 5, none⟩) hbv).trans y5⟩)
  have HW2 := hideIt hw2
  clear hw2
  go_wp2_with fail
  refine hK.out _ _ hS2.out (fun hHeld => ?_)
  clear hK K
  refine wpAnyH_done (by kernel_rfl) ?_ _
  exact h_ _ _ _ _ ⟨HW2.out.1, (hB1.mono hBW).trans HW2.out.2.1, kept_trans (kept_of_below hB1) HW2.out.2.2⟩
set_option maxRecDepth 100000 in
set_option maxHeartbeats 1000000 in
theorem linesToml_any (hd : Hd) (a : Option Addr) (c : Nat) (F : Vo) (w : World) (hF : F.size ≤ 1048576) (hin : F.In w a) (hl : F.len ≤ c) (hc : c ≤ maxLen) (hh : hd.In w) :
    Calls Try.prog 22 #[valV hd a F.len c, .func (.func 23) #[] #[]] w fun r w' => r = .returned (pairV (tput hd F)) ∧ Below w.heap.size w w' := by
  obtain ⟨wp, hwp⟩ : ∃ wp, wp = w.alloc (.cells #[.int .i64 hd.k, .int .i64 hd.m, .int .i64 hd.e, .string hd.t, .slice a F.len c, .slice hd.na hd.ns.length hd.nc] 28) := ⟨_, rfl⟩
  have hBp : Below w.heap.size w wp := by subst hwp; exact (Below.refl _ w).alloc (Nat.le_refl _) _
  have hA : BxV w.heap.size hd (.slice a F.len c) wp := by subst hwp; exact BxV.new w hd _ _
  have hX1 : Hid (∀ W, Below wp.heap.size wp W → BxV w.heap.size hd (.slice a F.len c) W) := fun W hW => hA.below hW
  have HI : Hid (∀ W, Below wp.heap.size wp W → (F.In W a ∧ hd.In W) ∧ Below w.heap.size w W) := fun W hW => by
    have hb := hBp.trans (hW.mono hBp.size)
    exact ⟨⟨hin.grow hb, hh.grow hb⟩, hb⟩
  have HW := hideIt hwp
  have hB0 := Below.refl wp.heap.size wp
  clear hwp hA hin hh hBp
  go_enter Try.func22, Try.ntmps22
  go_wp2_with fail
  rw [← HW.out]
  clear HW
  refine (iValueOk_any hd a c F _ (by omega) (HI.out _ hB0).1.1 hl hc (HI.out _ hB0).1.2).mono ?_
  rintro r w1 ⟨⟨q1, rfl, hq1⟩, hb1⟩
  have HQ1 := hideIt (hq1.trans (good_ok _ _))
  clear hq1
  obtain ⟨x0, x1, x2, x3, x4, x5⟩ := hX1.out _ hb1
  cases q1
  · have HR : Hid (tput hd F = (⟨#[]⟩, false)) := tput_no (fun x => by have := HQ1.out.2 x.1; cases this)
    have hbb := (HI.out _ hb1).2
    go_wp2_with fail
    exact bodyPost_ret (v := pairV (⟨#[]⟩, false)) (by simp [results, Try.results22, go_sem]) rfl ⟨by rw [HR.out], hbb⟩
  · have hv : ValOk hd F := HQ1.out.1 rfl
    have HV := hideIt hv
    have hs2 : F.size + 1 ≤ 200 := hv.1
    clear HQ1 hv
    go_wp2_with fail
    refine (fitsToml_all 300 hd a c F _ (by omega) (by omega) (HI.out _ hb1).1.1 hl hc (HI.out _ hb1).1.2).mono ?_
    rintro r w1' ⟨⟨q2, rfl, hq2⟩, hb1'⟩
    have HQ2 := hideIt hq2
    have hb1 := hb1.trans (hb1'.mono hb1.size)
    clear hq2 x0 x1 x2 x3 x4 x5 hb1'
    obtain ⟨x0, x1, x2, x3, x4, x5⟩ := hX1.out _ hb1
    cases q2
    · have HR : Hid (tput hd F = (⟨#[]⟩, false)) := tput_no (fun x => by have := HQ2.out.2 x.2; cases this)
      have hbb := (HI.out _ hb1).2
      go_wp2_with fail
      exact bodyPost_ret (v := pairV (⟨#[]⟩, false)) (by simp [results, Try.results22, go_sem]) rfl ⟨by rw [HR.out], hbb⟩
    have hf : fitsV hd F := by have q := HQ2.out; simpa using q
    have HR : Hid (tput hd F = (⟨(ttext 200 hd F []).toArray⟩, true)) := tput_ok ⟨HV.out, hf⟩
    have HF := hideIt hf
    clear HQ2 hf
    go_wp2_with fail
    have hH : Holds w1'.heap.size w1'.heap.size [] (w1'.alloc (.cells #[.pointer none, .slice none 0 0] 72)) := by
      have := Lib.IsBuilderF.of (Lib.fresh_isBuilder 72 5 w1')
      exact this
    obtain ⟨w2, hw2⟩ : ∃ w2, w1'.alloc (.cells #[.pointer none, .slice none 0 0] 72) = w2 := ⟨_, rfl⟩
    have hb2 : Below w1'.heap.size w1' w2 := by rw [← hw2]; exact (Below.refl _ w1').alloc (Nat.le_refl _) _
    rw [hw2] at hH ⊢
    have hz2 : w2.heap.size = w1'.heap.size + 1 := by rw [← hw2]; simp
    clear hw2
    have hbv : w.heap.size < w1'.heap.size := World.block_lt_of_cell? _ _ x0
    have hA2 := hX1.out _ (hb1.trans (hb2.mono hb1.size))
    clear x0 x1 x2 x3 x4 x5
    refine lp4 (L := ttext 200 hd F []) (B := w1'.heap.size) hA2 (fun W' hW => ?_) hbv (by omega) (fun _ d _ _ _ h => by cases d <;> exact h) ?_
    · exact (object_all 200 hd a c F ⟨#[]⟩ [] w1'.heap.size w1'.heap.size W' w1' (by omega) (by omega) (by show 0 + 13 * 200 ≤ 3000; omega) HF.out.1 (by rw [List.length_nil]; omega) ⟨HV.out.2.2.1, HV.out.2.2.2⟩ (HI.out _ hb1).1.1 hl hc (HI.out _ hb1).1.2 (Nat.le_refl _) (Nat.le_refl _) (hb2.trans (hW.mono hb2.size)) (holds_belowJ hH hW) (by have := hW.size; omega)).mono (fun _ _ h => ⟨h.1, by simpa using h.2⟩)
    intro w4 v16 v17 v18 h4
    have HW4 := hideIt h4
    have hb34 := h4.2.1
    have hz4 := hb34.size
    clear h4 hA2
    go_wp2_with fail
    refine (bString _ _ _ _ HW4.out.1.1 HW4.out.1.2).mono ?_
    rintro e w5 ⟨rfl, h5, b5, k5⟩
    have hbe := (HI.out _ (hb1.trans ((hb2.trans (hb34.trans b5)).mono hb1.size))).2
    go_wp2_with fail
    exact bodyPost_ret (v := pairV (⟨(ttext 200 hd F []).toArray⟩, true)) (by simp [results, Try.results22, go_sem]) rfl ⟨by rw [HR.out], hbe⟩
set_option maxRecDepth 100000 in
set_option maxHeartbeats 1000000 in
theorem iTomlPut_any (hd : Hd) (a : Option Addr) (c : Nat) (F : Vo) (w : World) (hF : F.size ≤ 1048576) (hin : F.In w a) (hl : F.len ≤ c) (hc : c ≤ maxLen) (hh : hd.In w) :
    Calls Try.prog 7 #[valV hd a F.len c] w fun r w' => r = .returned (pairV (tput hd F)) ∧ Below w.heap.size w w' := by
  have hB0 := (Below.refl _ w).alloc (Nat.le_refl _) (.cells #[.int .i64 hd.k, .int .i64 hd.m, .int .i64 hd.e, .string hd.t, .slice a F.len c, .slice hd.na hd.ns.length hd.nc] 28)
  have HC := hideIt (linesToml_any hd a c F _ hF (hin.grow hB0) hl hc (hh.grow hB0))
  clear hin hh
  go_enter Try.func7, Try.ntmps7
  go_wp2_with fail
  refine HC.out.mono ?_
  rintro r w1 ⟨rfl, hb1⟩
  have hB1 := hB0.trans (hb1.mono hB0.size)
  clear HC hb1
  go_wp2_with fail
  exact bodyPost_ret (v := pairV (tput hd F)) (by simp [results, Try.results7, go_sem]) rfl ⟨rfl, hB1⟩
end Go.Proofs.Ytfgchdnpbbgmjaa
/- FnTomlNot: the region that makes an object with one more, and the law. -/
namespace Go.Proofs.Ytfgchdnpbbgmjaa
open Go.RowKit
attribute [local go_sem] cell_alloc_is frozen_alloc_is
set_option maxRecDepth 100000 in
set_option maxHeartbeats 2000000 in
theorem tn8 {Q : Exit → Act → World → Prop} {t0 t1 t2 t4 t5 t6 t7 t8 t9 t10 t11 t12 t13 t14 t15 t16 t17 t18 t19 t20 t21 t22 t23 t24 t25 t26 t27 t28 t29 t30 t31 t32 t33 t34 t35 t36 t37 t38 t39 t40 t41 t42 t43 t44 t45 t46 t47 t48 t49 t50 t51 t52 t53 t54 t55 t56 t57 t58 t59 t60 t61 t62 t63 t64 t65 t66 t67 t68 t69 t70 t71 t72 t73 t74 t75 t76 t77 t78 t79 t80 t81 t82 t83 t84 t85 t86 t87 : Value} {W0 : World} {vb nl il nc ic : Nat} {na ia : Option Addr} {LN LI : List Value}
    (hN : W0.cell? ⟨vb, 5, none⟩ = some (.slice na nl nc)) (hX : W0.cell? ⟨vb, 4, none⟩ = some (.slice ia il ic)) (hS : SrcT W0 na ia nl il LN LI)
    (hp : ∀ p d v a w, Q (.panic p) (Act.put a d v) w → Q (.panic p) a w) (hF : FinT Q W0 vb nl il nc ic na ia LN LI t0 t1 t2 t4 t5 t6 t7 t9 t10 t11 t12 t13 t14 t15 t16 t17 t18 t19 t20 t21 t22 t23 t24 t25 t26 t27 t28 t29 t30 t31 t32 t33 t34 t35 t36 t37 t38 t39 t40 t55 t56 t57 t58 t59 t60 t61 t62 t63 t64 t65 t66 t67 t68 t69 t70 t71 t72 t73 t74 t75 t76 t77 t78 t79 t80 t81 t82 t83 t84 t85 t86 t87) :
    Code.wp Try.prog (Code.region 8 #[{ dst := some 41, op := Op.buildSlice 26 0 #[], type := 26, pos := "laws.go:1373", after := #[], guard := none }, { dst := some 42, op := Op.fieldAddr 28 (Operand.tmp 3) 4, type := 0, pos := "laws.go:1373", after := #[], guard := none }, { dst := some 43, op := Op.load 26 (Operand.tmp 42), type := 26, pos := "laws.go:1373", after := #[{ on := 1, ground := Ground.data }], guard := none }, { dst := some 44, op := Op.call { callee := Callee.builtin Builtin.append, args := #[Operand.tmp 41, Operand.tmp 43], argTypes := #[26, 26] }, type := 26, pos := "laws.go:1373", after := #[{ on := 0, ground := Ground.data }, { on := 2, ground := Ground.data }], guard := none }, { dst := some 45, op := Op.buildSlice 26 1 #[(0, Operand.const (Value.string ⟨#[122, 122]⟩))], type := 26, pos := "laws.go:1373", after := #[], guard := none }, { dst := some 46, op := Op.call { callee := Callee.builtin Builtin.append, args := #[Operand.tmp 44, Operand.tmp 45], argTypes := #[26, 26] }, type := 26, pos := "laws.go:1373", after := #[{ on := 3, ground := Ground.data }, { on := 4, ground := Ground.data }, { on := 3, ground := Ground.chain }], guard := none }, { dst := some 47, op := Op.buildSlice 25 0 #[], type := 25, pos := "laws.go:1373", after := #[], guard := none }, { dst := some 48, op := Op.fieldAddr 28 (Operand.tmp 3) 3, type := 0, pos := "laws.go:1373", after := #[], guard := none }, { dst := some 49, op := Op.load 25 (Operand.tmp 48), type := 25, pos := "laws.go:1373", after := #[{ on := 7, ground := Ground.data }], guard := none }, { dst := some 50, op := Op.call { callee := Callee.builtin Builtin.append, args := #[Operand.tmp 47, Operand.tmp 49], argTypes := #[25, 25] }, type := 25, pos := "laws.go:1373", after := #[{ on := 6, ground := Ground.data }, { on := 8, ground := Ground.data }, { on := 5, ground := Ground.chain }], guard := none }, { dst := some 51, op := Op.build 28 #[], type := 28, pos := "laws.go:1373", after := #[], guard := none }, { dst := some 52, op := Op.buildSlice 25 1 #[(0, Operand.tmp 51)], type := 25, pos := "laws.go:1373", after := #[{ on := 10, ground := Ground.data }], guard := none }, { dst := some 53, op := Op.call { callee := Callee.builtin Builtin.append, args := #[Operand.tmp 50, Operand.tmp 52], argTypes := #[25, 25] }, type := 25, pos := "laws.go:1373", after := #[{ on := 9, ground := Ground.data }, { on := 11, ground := Ground.data }, { on := 9, ground := Ground.chain }], guard := none }, { dst := some 54, op := Op.build 28 #[(0, Operand.const (Value.int IntKind.i64 6)), (4, Operand.tmp 46), (3, Operand.tmp 53)], type := 28, pos := "laws.go:1373", after := #[{ on := 5, ground := Ground.data }, { on := 12, ground := Ground.data }], guard := none }, { dst := some 8, op := Op.alloc 28, type := 0, pos := "laws.go:1373", after := #[], guard := none }, { dst := none, op := Op.store 28 (Operand.tmp 8) (Operand.tmp 54), type := 0, pos := "laws.go:1373", after := #[{ on := 14, ground := Ground.data }, { on := 13, ground := Ground.data }, { on := 12, ground := Ground.chain }, { on := 0, ground := Ground.phase }, { on := 1, ground := Ground.phase }, { on := 2, ground := Ground.phase }, { on := 3, ground := Ground.phase }, { on := 4, ground := Ground.phase }, { on := 5, ground := Ground.phase }, { on := 6, ground := Ground.phase }, { on := 7, ground := Ground.phase }, { on := 8, ground := Ground.phase }, { on := 9, ground := Ground.phase }, { on := 10, ground := Ground.phase }, { on := 11, ground := Ground.phase }, { on := 12, ground := Ground.phase }, { on := 13, ground := Ground.phase }, { on := 14, ground := Ground.phase }], guard := none }] true) Q { tmps := (t0 :: t1 :: t2 :: .pointer (some ⟨vb, 0, none⟩) :: t4 :: t5 :: t6 :: t7 :: t8 :: t9 :: t10 :: t11 :: t12 :: t13 :: t14 :: t15 :: t16 :: t17 :: t18 :: t19 :: t20 :: t21 :: t22 :: t23 :: t24 :: t25 :: t26 :: t27 :: t28 :: t29 :: t30 :: t31 :: t32 :: t33 :: t34 :: t35 :: t36 :: t37 :: t38 :: t39 :: t40 :: t41 :: t42 :: t43 :: t44 :: t45 :: t46 :: t47 :: t48 :: t49 :: t50 :: t51 :: t52 :: t53 :: t54 :: t55 :: t56 :: t57 :: t58 :: t59 :: t60 :: t61 :: t62 :: t63 :: t64 :: t65 :: t66 :: t67 :: t68 :: t69 :: t70 :: t71 :: t72 :: t73 :: t74 :: t75 :: t76 :: t77 :: t78 :: t79 :: t80 :: t81 :: t82 :: t83 :: t84 :: t85 :: t86 :: t87 :: []).toArray, defers := [] } W0 := by
  have hvn := World.block_lt_of_cell? W0 _ hN
  have hB0 : Below W0.heap.size W0 W0.drew := (Below.refl _ W0).drew
  have HC : Hid (∀ w', Below W0.heap.size W0 w' → w'.cell? ⟨vb, 5, none⟩ = some (.slice na nl nc) ∧ w'.cell? ⟨vb, 4, none⟩ = some (.slice ia il ic)) := fun w' h => ⟨(h.cell (p := ⟨vb, 5, none⟩) hvn).trans hN, (h.cell (p := ⟨vb, 4, none⟩) hvn).trans hX⟩
  clear hN hX
  refine wp_region_held_drew (S := fun w' => Below W0.heap.size W0 w') (by kernel_rfl) hB0 (fun hHeld => ?_)
  generalize W0.drew = Wd at *
  have hSw : Below W0.heap.size W0 Wd := hB0
  refine wpAnyH_take (i := 1) (v := .pointer (some ⟨vb, 5, none⟩)) rfl (by kernel_rfl) (by kernel_rfl) (by kernel_rfl) (fun _ _ _ h => hp _ _ _ _ _ h) (Or.inl ⟨by rfl, ?_⟩) (by assumption) ?_
  · intro w hSw
    (try dsimp only at hSw)
    (obtain ⟨c5, c4⟩ := HC.out _ hSw; go_simp)
  (try simp only [Act.put, List.getElem_toArray, List.getElem_cons_zero, List.getElem_cons_succ, List.setIfInBounds_toArray, List.set_cons_zero, List.set_cons_succ])
  refine wpAnyH_take (i := 2) (v := .slice na nl nc) rfl (by kernel_rfl) (by kernel_rfl) (by kernel_rfl) (fun _ _ _ h => hp _ _ _ _ _ h) (Or.inl ⟨by rfl, ?_⟩) (by assumption) ?_
  · intro w hSw
    (try dsimp only at hSw)
    (obtain ⟨c5, c4⟩ := HC.out _ hSw; go_simp)
  (try simp only [Act.put, List.getElem_toArray, List.getElem_cons_zero, List.getElem_cons_succ, List.setIfInBounds_toArray, List.set_cons_zero, List.set_cons_succ])
  refine wpAnyH_take (i := 7) (v := .pointer (some ⟨vb, 4, none⟩)) rfl (by kernel_rfl) (by kernel_rfl) (by kernel_rfl) (fun _ _ _ h => hp _ _ _ _ _ h) (Or.inl ⟨by rfl, ?_⟩) (by assumption) ?_
  · intro w hSw
    (try dsimp only at hSw)
    (obtain ⟨c5, c4⟩ := HC.out _ hSw; go_simp)
  (try simp only [Act.put, List.getElem_toArray, List.getElem_cons_zero, List.getElem_cons_succ, List.setIfInBounds_toArray, List.set_cons_zero, List.set_cons_succ])
  refine wpAnyH_take (i := 8) (v := .slice ia il ic) rfl (by kernel_rfl) (by kernel_rfl) (by kernel_rfl) (fun _ _ _ h => hp _ _ _ _ _ h) (Or.inl ⟨by rfl, ?_⟩) (by assumption) ?_
  · intro w hSw
    (try dsimp only at hSw)
    (obtain ⟨c5, c4⟩ := HC.out _ hSw; go_simp)
  (try simp only [Act.put, List.getElem_toArray, List.getElem_cons_zero, List.getElem_cons_succ, List.setIfInBounds_toArray, List.set_cons_zero, List.set_cons_succ])
  refine wpAnyH_take (i := 10) (v := .agg #[.int .i64 0, .int .i64 0, .int .i64 0, .string ⟨#[]⟩, .slice none 0 0, .slice none 0 0]) rfl (by kernel_rfl) (by kernel_rfl) (by kernel_rfl) (fun _ _ _ h => hp _ _ _ _ _ h) (Or.inl ⟨by rfl, ?_⟩) (by assumption) ?_
  · intro w hSw
    (try dsimp only at hSw)
    (obtain ⟨c5, c4⟩ := HC.out _ hSw; go_simp)
  (try simp only [Act.put, List.getElem_toArray, List.getElem_cons_zero, List.getElem_cons_succ, List.setIfInBounds_toArray, List.set_cons_zero, List.set_cons_succ])
  have hI : InvT W0 Wd (fun _ => none) ⟨#[122, 122]⟩ undef 0 [] undef 0 [] false false false false false := ⟨hB0, ⟨(fun _ _ _ h => by cases h), (fun _ _ h => by cases h)⟩, (fun h => by cases h), (fun h => by cases h), (fun h => by cases h), (fun h => by cases h), (fun h => by cases h)⟩
  exact tn00000_0 rfl rfl hS hp hF hI
end Go.Proofs.Ytfgchdnpbbgmjaa
/- The law FnTomlNot walked. -/
namespace Go.Proofs.Ytfgchdnpbbgmjaa
open Go.RowKit
attribute [local go_sem] cell_alloc_is frozen_alloc_is
theorem fits_app : ∀ {F G : Vo}, (F.app G).allFits → G.allFits := by
  intro F
  induction F with
  | nil => intro G h; exact h
  | cons h a c kids next _ ih => intro G x; exact ih x.2
/-- an object with one more, that is nothing, cannot be written -/
theorem tput_more (h : Hd) (F : Vo) : tput h (F.app (oneV ⟨0, 0, 0, ⟨#[]⟩, none, 0, []⟩ none 0 .nil)) = (⟨#[]⟩, false) :=
  tput_no fun x => by
    have h1 := fits_app x.2.2
    rcases h1.1 with h2 | h2
    · exact h2.1.1 rfl
    · exact absurd h2.1 (by show ¬ (0 : Int) = 6; decide)
/-- an object in an array cannot be written -/
theorem tput_arr (g h h' : Hd) (a a' : Option Addr) (c c' : Nat) (F : Vo) (hk : h.k = 6) (hg : g.k = 5) : tput h' (oneV g a' c' (oneV h a c F)) = (⟨#[]⟩, false) :=
  tput_no fun x => by
    rcases x.2.2.1 with h2 | h2
    · exact h2.2.1.1.2 hk
    · rw [hg] at h2; exact absurd h2.1 (by decide)
theorem tput_kind (h : Hd) (F : Vo) (hk : h.k = 5) : tput h F = (⟨#[]⟩, false) :=
  tput_no fun x => by have := x.2.1; rw [hk] at this; exact absurd this (by decide)
theorem pairV_no : pairV (⟨#[]⟩, false) = .tuple #[.string ⟨#[]⟩, .bool false] := rfl
set_option maxRecDepth 100000 in
set_option maxHeartbeats 2000000 in
theorem walk_FnTomlNot (a : Option Addr) (len cap : Nat) (zs : List Int) (w : World) (hz : IsRow .u8 w a len cap zs) :
    Calls Try.prog 3 #[.slice a len cap] w fun e w' => e = .returned (.bool true) ∧ Below w.heap.size w w' := by
  have hc := codeIn_of hz
  clear hz
  have hm : cap ≤ maxLen := hc.2.2.1
  have hlc : len ≤ cap := hc.2.1
  unfold maxLen at hm
  by_cases hlen : len ≤ 1048576
  · go_enter Try.func3, Try.ntmps3
    go_wp2_with fail
    refine (drawTomlPut_any w a len cap hc).mono ?_
    rintro e w1 ⟨⟨hV, F, av, c, rfl, hS⟩, hb1⟩
    have hbW : Below w1.heap.size w1 (w1.alloc (.cells #[.int .i64 hV.k, .int .i64 hV.m, .int .i64 hV.e, .string hV.t, .slice av F.len c, .slice hV.na hV.ns.length hV.nc] 28)) := (Below.refl _ _).alloc (Nat.le_refl _) _
    have V2 : Row (w1.alloc (.cells #[.int .i64 hV.k, .int .i64 hV.m, .int .i64 hV.e, .string hV.t, .slice av F.len c, .slice hV.na hV.ns.length hV.nc] 28)) w1.heap.size (six hV av F.len c) := Row.new w1 _ _
    have hb2 := hb1.trans (hbW.mono hb1.size)
    have hS2 := hS.below hbW
    clear hbW hS hc
    go_wp2_with fail
    obtain ⟨vb, hvb⟩ : ∃ vb, w1.heap.size = vb := ⟨_, rfl⟩
    rw [hvb] at V2 ⊢
    generalize w1.alloc (.cells #[.int .i64 hV.k, .int .i64 hV.m, .int .i64 hV.e, .string hV.t, .slice av F.len c, .slice hV.na hV.ns.length hV.nc] 28) = w2 at *
    clear hvb hb1
    obtain ⟨i1, i2, i3⟩ := Vo.kin_one.1 hS2.1.1
    have hsz := hS2.2.2.1.1
    obtain ⟨s, q, hp⟩ : ∃ s q, tput hV F = (s, q) := ⟨_, _, rfl⟩
    have hT1 := iTomlPut_any hV av c F w2 (by omega) i1 i2.1 i2.2 i3
    rw [hp] at hT1
    refine hT1.mono ?_
    rintro r w3 ⟨rfl, hb3⟩
    have hvl := World.block_lt_of_cell? w2 _ (V2 0 _ rfl).1
    have V3 := V2.below hb3 hvl
    have hS3 := hS2.below hb3
    have hB3 := hb2.trans (hb3.mono hb2.size)
    clear i1 i2 i3 hT1 hS2 V2 hb2 hb3 hvl
    unfold pairV
    have x0 := (V3 0 _ rfl).1
    have x1 := (V3 1 _ rfl).1
    have x2 := (V3 2 _ rfl).1
    have x3 := (V3 3 _ rfl).1
    have x4 := (V3 4 _ rfl).1
    have x5 := (V3 5 _ rfl).1
    obtain ⟨i1, i2, i3⟩ := Vo.kin_one.1 hS3.1.1
    have hT2 := sTomlPut_any hV av c F w3 (by omega) i1 i2.1 i2.2 i3
    rw [hp] at hT2
    unfold pairV at hT2
    go_wp2_with fail
    refine hT2.mono ?_
    rintro r w4 ⟨rfl, hb4⟩
    have hvl := World.block_lt_of_cell? w3 _ x0
    have V4 := V3.below hb4 hvl
    have hS4 := hS3.below hb4
    have hB4 := hB3.trans (hb4.mono hB3.size)
    clear i1 i2 i3 hT2 hS3 V3 hB3 hb4 hvl x0 x1 x2 x3 x4 x5
    cases q
    · clear hS4 V4 hp
      go_wp2_with fail
      go_ret
      exact ⟨rfl, hB4⟩
    · have hk6 : hV.k = 6 := by
        by_cases hx : ValOk hV F ∧ fitsV hV F
        · exact hx.2.1
        · rw [tput_no hx] at hp
          have := congrArg Prod.snd hp
          cases this
      have HK : Hid (hV.k = 6) := hk6
      clear hp hk6
      obtain ⟨i1, i2, i3⟩ := Vo.kin_one.1 hS4.1.1
      have hlF := F.len_le
      have hl4 := hS4.2.2.2.1
      have hLn := i3.1.lies
      have hSrc : SrcT w4 hV.na av hV.ns.length F.len (texts hV.ns) F.cells := by
        refine ⟨⟨by unfold texts; simp, Vo.cells_length F⟩, ⟨texts_one, Vo.cells_one F⟩, ⟨by omega, by omega⟩, fun w' hb => ⟨Lies.src (sz := 1) (hLn.1.grow hb) (by unfold texts; simp) (by omega), Lies.src (sz := 6) ((Vo.In.lies i1).grow hb) (Vo.cells_length F) (by omega)⟩⟩
      have hc5 := (V4 5 _ rfl).1
      have hc4 := (V4 4 _ rfl).1
      go_wp2_with fail
      refine tn8 (LN := texts hV.ns) (LI := F.cells) hc5 hc4 hSrc (fun _ d _ _ _ h => by cases d <;> exact h) ?_
      unfold FinT
      rintro ws b u41 u44 u45 u46 u47 u50 u52 u53 u54 ⟨hbs, hbz, hR, hoN, hoI⟩
      obtain ⟨aI, cI, rfl, hLI, hcI, -⟩ := own_lies hoI
      obtain ⟨aN, cN, rfl, hLN, hcN, -⟩ := own_lies hoN
      have hvl := World.block_lt_of_cell? w4 _ hc4
      have Vs := V4.below hbs hvl
      have hSs := hS4.below hbs
      have hBs := hB4.trans (hbs.mono hB4.size)
      have hRl := World.block_lt_of_cell? ws _ (hR 0 _ rfl).1
      have hw4 := hB4.size
      have HX : Hid ((F.app (oneV ⟨0, 0, 0, ⟨#[]⟩, none, 0, []⟩ none 0 .nil)).In ws aI ∧ SIn ws (hV.ns ++ [⟨#[122, 122]⟩]) aN) := by
        refine ⟨Lies.in (by rw [Vo.app_cells, Vo.cells_oneV]; exact hLI) (Vo.app_kin (Vo.In.kin (Vo.kin_one.1 hSs.1.1).1) (Vo.kin_one.2 ⟨.inl rfl, ⟨Nat.le_refl _, Nat.zero_le _⟩, .inl rfl, ⟨Nat.le_refl _, Nat.zero_le _⟩, Nat.zero_le _⟩)), Lies.sin (by unfold texts at hLN ⊢; rw [List.map_append]; exact hLN) (fun s hs => ?_)⟩
        rcases List.mem_append.1 hs with hs | hs
        · exact hLn.2 s hs
        · rw [List.mem_singleton.1 hs]; exact (by unfold maxLen; decide : (ByteArray.mk #[122, 122]).size ≤ maxLen)
      have HC : Hid (F.len + 1 ≤ cI ∧ cI ≤ maxLen ∧ hV.ns.length + 1 ≤ cN ∧ cN ≤ maxLen) := ⟨hcI.1, hcI.2, hcN.1, hcN.2⟩
      have hxl : (F.app (oneV ⟨0, 0, 0, ⟨#[]⟩, none, 0, []⟩ none 0 .nil)).len = F.len + 1 := Vo.app_len _ _
      have hxs : (F.app (oneV ⟨0, 0, 0, ⟨#[]⟩, none, 0, []⟩ none 0 .nil)).size = F.size + 1 := Vo.app_size _ _
      have HXl : Hid ((F.app (oneV ⟨0, 0, 0, ⟨#[]⟩, none, 0, []⟩ none 0 .nil)).len = F.len + 1 ∧ (F.app (oneV ⟨0, 0, 0, ⟨#[]⟩, none, 0, []⟩ none 0 .nil)).size = F.size + 1) := ⟨hxl, hxs⟩
      clear hxl hxs hLI hLN hcI hcN hoI hoN hSrc hc5 hc4 i1 i2 i3 hLn hS4 V4 hB4 hbs hvl
      have x0 := (Vs 0 _ rfl).1
      have x1 := (Vs 1 _ rfl).1
      have x2 := (Vs 2 _ rfl).1
      have x3 := (Vs 3 _ rfl).1
      have x4 := (Vs 4 _ rfl).1
      have x5 := (Vs 5 _ rfl).1
      have q1 : Below ws.heap.size ws (ws.alloc (.cells #[.string ⟨#[113]⟩] 9)) := (Below.refl _ _).alloc (Nat.le_refl _) _
      have q2 : Below ws.heap.size ws ((ws.alloc (.cells #[.string ⟨#[113]⟩] 9)).alloc (.cells #[.int .i64 hV.k, .int .i64 hV.m, .int .i64 hV.e, .string hV.t, .slice av F.len c, .slice hV.na hV.ns.length hV.nc] 28)) := q1.alloc q1.size _
      have q3 : Below ws.heap.size ws (((ws.alloc (.cells #[.string ⟨#[113]⟩] 9)).alloc (.cells #[.int .i64 hV.k, .int .i64 hV.m, .int .i64 hV.e, .string hV.t, .slice av F.len c, .slice hV.na hV.ns.length hV.nc] 28)).alloc (.cells #[.int .i64 5, .int .i64 0, .int .i64 0, .string ⟨#[]⟩, .slice (some ⟨ws.heap.size + 1, 0, none⟩) 1 1, .slice none 0 0] 28)) := q2.alloc q2.size _
      have q4 : Below ws.heap.size ws ((((ws.alloc (.cells #[.string ⟨#[113]⟩] 9)).alloc (.cells #[.int .i64 hV.k, .int .i64 hV.m, .int .i64 hV.e, .string hV.t, .slice av F.len c, .slice hV.na hV.ns.length hV.nc] 28)).alloc (.cells #[.int .i64 5, .int .i64 0, .int .i64 0, .string ⟨#[]⟩, .slice (some ⟨ws.heap.size + 1, 0, none⟩) 1 1, .slice none 0 0] 28)).alloc (.cells #[.int .i64 6, .int .i64 0, .int .i64 0, .string ⟨#[]⟩, .slice (some ⟨ws.heap.size + 1 + 1, 0, none⟩) 1 1, .slice (some ⟨ws.heap.size, 0, none⟩) 1 1] 28)) := q3.alloc q3.size _
      have y0 := (q4.cell (p := ⟨b, 0, none⟩) hRl).trans (hR 0 _ rfl).1
      have y1 := (q4.cell (p := ⟨b, 1, none⟩) hRl).trans (hR 1 _ rfl).1
      have y2 := (q4.cell (p := ⟨b, 2, none⟩) hRl).trans (hR 2 _ rfl).1
      have y3 := (q4.cell (p := ⟨b, 3, none⟩) hRl).trans (hR 3 _ rfl).1
      have y4 := (q4.cell (p := ⟨b, 4, none⟩) hRl).trans (hR 4 _ rfl).1
      have y5 := (q4.cell (p := ⟨b, 5, none⟩) hRl).trans (hR 5 _ rfl).1
      have hq4 : Below w.heap.size w ((((ws.alloc (.cells #[.string ⟨#[113]⟩] 9)).alloc (.cells #[.int .i64 hV.k, .int .i64 hV.m, .int .i64 hV.e, .string hV.t, .slice av F.len c, .slice hV.na hV.ns.length hV.nc] 28)).alloc (.cells #[.int .i64 5, .int .i64 0, .int .i64 0, .string ⟨#[]⟩, .slice (some ⟨ws.heap.size + 1, 0, none⟩) 1 1, .slice none 0 0] 28)).alloc (.cells #[.int .i64 6, .int .i64 0, .int .i64 0, .string ⟨#[]⟩, .slice (some ⟨ws.heap.size + 1 + 1, 0, none⟩) 1 1, .slice (some ⟨ws.heap.size, 0, none⟩) 1 1] 28)) := hBs.trans (q4.mono hBs.size)
      have S2 : AnyS w.heap.size 469 ((ws.alloc (.cells #[.string ⟨#[113]⟩] 9)).alloc (.cells #[.int .i64 hV.k, .int .i64 hV.m, .int .i64 hV.e, .string hV.t, .slice av F.len c, .slice hV.na hV.ns.length hV.nc] 28)) (hdK 5) (some ⟨ws.heap.size + 1, 0, none⟩) 1 (oneV hV av c F) := hSs.wrap q2 (by have := hBs.size; omega) 28 (by have := World.alloc_heap_new (ws.alloc (.cells #[.string ⟨#[113]⟩] 9)) (.cells #[.int .i64 hV.k, .int .i64 hV.m, .int .i64 hV.e, .string hV.t, .slice av F.len c, .slice hV.na hV.ns.length hV.nc] 28); rw [World.size_alloc] at this; exact this)
      have S3 : AnyS w.heap.size 470 (((ws.alloc (.cells #[.string ⟨#[113]⟩] 9)).alloc (.cells #[.int .i64 hV.k, .int .i64 hV.m, .int .i64 hV.e, .string hV.t, .slice av F.len c, .slice hV.na hV.ns.length hV.nc] 28)).alloc (.cells #[.int .i64 5, .int .i64 0, .int .i64 0, .string ⟨#[]⟩, .slice (some ⟨ws.heap.size + 1, 0, none⟩) 1 1, .slice none 0 0] 28)) (hdK 5) (some ⟨ws.heap.size + 1 + 1, 0, none⟩) 1 (oneV (hdK 5) (some ⟨ws.heap.size + 1, 0, none⟩) 1 (oneV hV av c F)) := S2.wrap ((Below.refl _ _).alloc (Nat.le_refl _) _) (by have := hBs.size; omega) 28 (by have := World.alloc_heap_new ((ws.alloc (.cells #[.string ⟨#[113]⟩] 9)).alloc (.cells #[.int .i64 hV.k, .int .i64 hV.m, .int .i64 hV.e, .string hV.t, .slice av F.len c, .slice hV.na hV.ns.length hV.nc] 28)) (.cells #[.int .i64 5, .int .i64 0, .int .i64 0, .string ⟨#[]⟩, .slice (some ⟨ws.heap.size + 1, 0, none⟩) 1 1, .slice none 0 0] 28); rw [World.size_alloc, World.size_alloc] at this; exact this)
      have S4 : AnyS w.heap.size 470 ((((ws.alloc (.cells #[.string ⟨#[113]⟩] 9)).alloc (.cells #[.int .i64 hV.k, .int .i64 hV.m, .int .i64 hV.e, .string hV.t, .slice av F.len c, .slice hV.na hV.ns.length hV.nc] 28)).alloc (.cells #[.int .i64 5, .int .i64 0, .int .i64 0, .string ⟨#[]⟩, .slice (some ⟨ws.heap.size + 1, 0, none⟩) 1 1, .slice none 0 0] 28)).alloc (.cells #[.int .i64 6, .int .i64 0, .int .i64 0, .string ⟨#[]⟩, .slice (some ⟨ws.heap.size + 1 + 1, 0, none⟩) 1 1, .slice (some ⟨ws.heap.size, 0, none⟩) 1 1] 28)) (hdK 5) (some ⟨ws.heap.size + 1 + 1, 0, none⟩) 1 (oneV (hdK 5) (some ⟨ws.heap.size + 1, 0, none⟩) 1 (oneV hV av c F)) := S3.below ((Below.refl _ _).alloc (Nat.le_refl _) _)
      have V4 : Row ((((ws.alloc (.cells #[.string ⟨#[113]⟩] 9)).alloc (.cells #[.int .i64 hV.k, .int .i64 hV.m, .int .i64 hV.e, .string hV.t, .slice av F.len c, .slice hV.na hV.ns.length hV.nc] 28)).alloc (.cells #[.int .i64 5, .int .i64 0, .int .i64 0, .string ⟨#[]⟩, .slice (some ⟨ws.heap.size + 1, 0, none⟩) 1 1, .slice none 0 0] 28)).alloc (.cells #[.int .i64 6, .int .i64 0, .int .i64 0, .string ⟨#[]⟩, .slice (some ⟨ws.heap.size + 1 + 1, 0, none⟩) 1 1, .slice (some ⟨ws.heap.size, 0, none⟩) 1 1] 28)) vb (six hV av F.len c) := Vs.below q4 (World.block_lt_of_cell? ws _ x0)
      have N4 : SIn ((((ws.alloc (.cells #[.string ⟨#[113]⟩] 9)).alloc (.cells #[.int .i64 hV.k, .int .i64 hV.m, .int .i64 hV.e, .string hV.t, .slice av F.len c, .slice hV.na hV.ns.length hV.nc] 28)).alloc (.cells #[.int .i64 5, .int .i64 0, .int .i64 0, .string ⟨#[]⟩, .slice (some ⟨ws.heap.size + 1, 0, none⟩) 1 1, .slice none 0 0] 28)).alloc (.cells #[.int .i64 6, .int .i64 0, .int .i64 0, .string ⟨#[]⟩, .slice (some ⟨ws.heap.size + 1 + 1, 0, none⟩) 1 1, .slice (some ⟨ws.heap.size, 0, none⟩) 1 1] 28)) [⟨#[113]⟩] (some ⟨ws.heap.size, 0, none⟩) := SIn.grow (.inr ⟨ws.heap.size, 0, rfl, by simp, (by unfold maxLen; decide : (ByteArray.mk #[113]).size ≤ maxLen), trivial⟩) ((((Below.refl _ _).alloc (Nat.le_refl _) _).alloc (by simp) _).alloc (by simp) _)
      have Y4 : Row ((((ws.alloc (.cells #[.string ⟨#[113]⟩] 9)).alloc (.cells #[.int .i64 hV.k, .int .i64 hV.m, .int .i64 hV.e, .string hV.t, .slice av F.len c, .slice hV.na hV.ns.length hV.nc] 28)).alloc (.cells #[.int .i64 5, .int .i64 0, .int .i64 0, .string ⟨#[]⟩, .slice (some ⟨ws.heap.size + 1, 0, none⟩) 1 1, .slice none 0 0] 28)).alloc (.cells #[.int .i64 6, .int .i64 0, .int .i64 0, .string ⟨#[]⟩, .slice (some ⟨ws.heap.size + 1 + 1, 0, none⟩) 1 1, .slice (some ⟨ws.heap.size, 0, none⟩) 1 1] 28)) (ws.heap.size + 1 + 1 + 1) [.int .i64 6, .int .i64 0, .int .i64 0, .string ⟨#[]⟩, .slice (some ⟨ws.heap.size + 1 + 1, 0, none⟩) 1 1, .slice (some ⟨ws.heap.size, 0, none⟩) 1 1] := by have := Row.new (((ws.alloc (.cells #[.string ⟨#[113]⟩] 9)).alloc (.cells #[.int .i64 hV.k, .int .i64 hV.m, .int .i64 hV.e, .string hV.t, .slice av F.len c, .slice hV.na hV.ns.length hV.nc] 28)).alloc (.cells #[.int .i64 5, .int .i64 0, .int .i64 0, .string ⟨#[]⟩, .slice (some ⟨ws.heap.size + 1, 0, none⟩) 1 1, .slice none 0 0] 28)) [.int .i64 6, .int .i64 0, .int .i64 0, .string ⟨#[]⟩, .slice (some ⟨ws.heap.size + 1 + 1, 0, none⟩) 1 1, .slice (some ⟨ws.heap.size, 0, none⟩) 1 1] 28; rw [World.size_alloc, World.size_alloc, World.size_alloc] at this; exact this
      have HX4 : Hid ((F.app (oneV ⟨0, 0, 0, ⟨#[]⟩, none, 0, []⟩ none 0 .nil)).In ((((ws.alloc (.cells #[.string ⟨#[113]⟩] 9)).alloc (.cells #[.int .i64 hV.k, .int .i64 hV.m, .int .i64 hV.e, .string hV.t, .slice av F.len c, .slice hV.na hV.ns.length hV.nc] 28)).alloc (.cells #[.int .i64 5, .int .i64 0, .int .i64 0, .string ⟨#[]⟩, .slice (some ⟨ws.heap.size + 1, 0, none⟩) 1 1, .slice none 0 0] 28)).alloc (.cells #[.int .i64 6, .int .i64 0, .int .i64 0, .string ⟨#[]⟩, .slice (some ⟨ws.heap.size + 1 + 1, 0, none⟩) 1 1, .slice (some ⟨ws.heap.size, 0, none⟩) 1 1] 28)) aI ∧ SIn ((((ws.alloc (.cells #[.string ⟨#[113]⟩] 9)).alloc (.cells #[.int .i64 hV.k, .int .i64 hV.m, .int .i64 hV.e, .string hV.t, .slice av F.len c, .slice hV.na hV.ns.length hV.nc] 28)).alloc (.cells #[.int .i64 5, .int .i64 0, .int .i64 0, .string ⟨#[]⟩, .slice (some ⟨ws.heap.size + 1, 0, none⟩) 1 1, .slice none 0 0] 28)).alloc (.cells #[.int .i64 6, .int .i64 0, .int .i64 0, .string ⟨#[]⟩, .slice (some ⟨ws.heap.size + 1 + 1, 0, none⟩) 1 1, .slice (some ⟨ws.heap.size, 0, none⟩) 1 1] 28)) (hV.ns ++ [⟨#[122, 122]⟩]) aN) := ⟨HX.out.1.grow q4, HX.out.2.grow q4⟩
      have T4 := hSs.below q4
      clear HX q1 q2 q3 q4 S2 S3 Vs hSs hR
      go_wp2_with fail
      obtain ⟨W4, hW4⟩ : ∃ W4, W4 = (((ws.alloc (.cells #[.string ⟨#[113]⟩] 9)).alloc (.cells #[.int .i64 hV.k, .int .i64 hV.m, .int .i64 hV.e, .string hV.t, .slice av F.len c, .slice hV.na hV.ns.length hV.nc] 28)).alloc (.cells #[.int .i64 5, .int .i64 0, .int .i64 0, .string ⟨#[]⟩, .slice (some ⟨ws.heap.size + 1, 0, none⟩) 1 1, .slice none 0 0] 28)).alloc (.cells #[.int .i64 6, .int .i64 0, .int .i64 0, .string ⟨#[]⟩, .slice (some ⟨ws.heap.size + 1 + 1, 0, none⟩) 1 1, .slice (some ⟨ws.heap.size, 0, none⟩) 1 1] 28) := ⟨_, rfl⟩
      rw [← hW4] at hq4 S4 V4 N4 Y4 HX4 T4 ⊢
      have hT3 := iTomlPut_any (Hd.mk 6 0 0 ⟨#[]⟩ aN cN (hV.ns ++ [⟨#[122, 122]⟩])) aI cI (F.app (oneV ⟨0, 0, 0, ⟨#[]⟩, none, 0, []⟩ none 0 .nil)) W4 (by rw [HXl.out.2]; omega) HX4.out.1 (by rw [HXl.out.1]; exact HC.out.1) HC.out.2.1 ⟨HX4.out.2, ⟨by rw [List.length_append]; exact HC.out.2.2.1, HC.out.2.2.2⟩, Nat.zero_le _⟩
      rw [tput_more] at hT3
      have e1 : valV (Hd.mk 6 0 0 ⟨#[]⟩ aN cN (hV.ns ++ [⟨#[122, 122]⟩])) aI (F.app (oneV ⟨0, 0, 0, ⟨#[]⟩, none, 0, []⟩ none 0 .nil)).len cI = .agg #[.int .i64 6, .int .i64 0, .int .i64 0, .string ⟨#[]⟩, .slice aI (F.len + 1) cI, .slice aN (hV.ns.length + 1) cN] := by
        rw [HXl.out.1]
        show Value.agg #[.int .i64 6, .int .i64 0, .int .i64 0, .string ⟨#[]⟩, .slice aI (F.len + 1) cI, .slice aN (hV.ns ++ ([⟨#[122, 122]⟩] : List ByteArray)).length cN] = _
        rw [List.length_append]; rfl
      rw [e1, pairV_no] at hT3
      clear e1 hW4 y0 y1 y2 y3 y4 y5 x0 x1 x2 x3 x4 x5 HX4 hRl
      refine hT3.mono ?_
      rintro r w5 ⟨rfl, hb5⟩
      have hB5 := hq4.trans (hb5.mono hq4.size)
      have S5 := S4.below hb5
      have T5 := T4.below hb5
      have V5 := V4.below hb5 (World.block_lt_of_cell? W4 _ (V4 0 _ rfl).1)
      have Y5 := Y4.below hb5 (World.block_lt_of_cell? W4 _ (Y4 0 _ rfl).1)
      have N5 := N4.grow hb5
      clear hT3 hq4 T4 S4 V4 Y4 N4 hb5
      obtain ⟨i1, i2, i3⟩ := Vo.kin_one.1 S5.1.1
      have hT4 := iTomlPut_any (Hd.mk 6 0 0 ⟨#[]⟩ (some ⟨ws.heap.size, 0, none⟩) 1 [⟨#[113]⟩]) (some ⟨ws.heap.size + 1 + 1, 0, none⟩) 1 (oneV (hdK 5) (some ⟨ws.heap.size + 1, 0, none⟩) 1 (oneV hV av c F)) w5 (by show F.size + 1 + 0 + 1 + 0 ≤ 1048576; omega) i1 i2.1 i2.2 ⟨N5, ⟨Nat.le_refl _, (show (1 : Nat) ≤ maxLen by unfold maxLen; omega)⟩, Nat.zero_le _⟩
      rw [tput_arr _ _ _ _ _ _ _ _ HK.out rfl, pairV_no] at hT4
      have y0 := (Y5 0 _ rfl).1
      have y1 := (Y5 1 _ rfl).1
      have y2 := (Y5 2 _ rfl).1
      have y3 := (Y5 3 _ rfl).1
      have y4 := (Y5 4 _ rfl).1
      have y5 := (Y5 5 _ rfl).1
      go_wp2_with fail
      refine hT4.mono ?_
      rintro r w6 ⟨rfl, hb6⟩
      have hB6 := hB5.trans (hb6.mono hB5.size)
      have T6 := T5.below hb6
      have V6 := V5.below hb6 (World.block_lt_of_cell? w5 _ (V5 0 _ rfl).1)
      clear hT4 hB5 S5 T5 V5 Y5 N5 i1 i2 i3 hb6 y0 y1 y2 y3 y4 y5
      have x0 := (V6 0 _ rfl).1
      have x1 := (V6 1 _ rfl).1
      have x2 := (V6 2 _ rfl).1
      have x3 := (V6 3 _ rfl).1
      have x4 := (V6 4 _ rfl).1
      have x5 := (V6 5 _ rfl).1
      have hbW : Below w6.heap.size w6 (w6.alloc (.cells #[.int .i64 hV.k, .int .i64 hV.m, .int .i64 hV.e, .string hV.t, .slice av F.len c, .slice hV.na hV.ns.length hV.nc] 28)) := (Below.refl _ _).alloc (Nat.le_refl _) _
      have S7 := AnyS.wrap T6 hbW hB6.size 28 (World.alloc_heap_new w6 (.cells #[.int .i64 hV.k, .int .i64 hV.m, .int .i64 hV.e, .string hV.t, .slice av F.len c, .slice hV.na hV.ns.length hV.nc] 28))
      have hB7 := hB6.trans (hbW.mono hB6.size)
      obtain ⟨i1, i2, i3⟩ := Vo.kin_one.1 S7.1.1
      have hT5 := iTomlPut_any (hdK 5) (some ⟨w6.heap.size, 0, none⟩) 1 (oneV hV av c F) _ (by show F.size + 1 + 0 ≤ 1048576; omega) i1 i2.1 i2.2 i3
      rw [tput_kind _ _ rfl, pairV_no] at hT5
      clear S7 i1 i2 i3 T6 V6 hB6 hbW
      go_wp2_with fail
      refine hT5.mono ?_
      rintro r w8 ⟨rfl, hb8⟩
      have hB8 := hB7.trans (hb8.mono hB7.size)
      clear hT5 hB7 hb8 x0 x1 x2 x3 x4 x5
      go_wp2_with fail
      go_ret
      exact ⟨rfl, hB8⟩
  · go_enter Try.func3, Try.ntmps3
    go_wp2_with fail
    go_ret
    exact ⟨rfl, Below.refl _ _⟩
end Go.Proofs.Ytfgchdnpbbgmjaa
