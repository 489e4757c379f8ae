/- My own texts, joined: Tb. -/
import Derived.Test.YtfgchdnpbbgmjaaJFnTomlNot8
import Derived.Deep.RegionHeld3
/- FnTomlNot: the region that makes an object with one more: a statement a state. -/
namespace Go.Proofs.Ytfgchdnpbbgmjaa
open Go.RowKit
attribute [local go_sem] cell_alloc_is frozen_alloc_is
theorem BoxZ.row {w : World} {g : Nat} (h : BoxZ w g) : Row w g zero6L := by
  unfold BoxZ at h
  intro i v hi
  have hc : w.cell? ⟨g, i, none⟩ = some v := by
    unfold zero6L at hi
    match i, hi with
    | 0, hi | 1, hi | 2, hi | 3, hi | 4, hi | 5, hi => simp at hi; subst hi; simp [World.cell?, h]
    | i + 6, hi => simp at hi
  exact ⟨hc, by simp [World.frozen?, h]⟩
theorem InvT.boxed {W0 w : World} {f : Nat → Option Nat} {s : ByteArray} {vN vI : Value} {cN cI : Nat} {LN LI : List Value} {b : Nat} (h : InvT W0 w f s vN cN LN vI cI LI true true true true true) (hb : f 4 = some b) (v0 v1 v2 v3 v4 v5 : Value) :
    Below W0.heap.size W0 (put6 w b 0 v0 v1 v2 v3 v4 v5) ∧ W0.heap.size ≤ b ∧ Row (put6 w b 0 v0 v1 v2 v3 v4 v5) b [v0, v1, v2, v3, v4, v5] ∧ (put6 w b 0 v0 v1 v2 v3 v4 v5).ownsRow W0.heap.size 9 1 vN cN LN ∧ (put6 w b 0 v0 v1 v2 v3 v4 v5).ownsRow W0.heap.size 28 6 vI cI LI := by
  obtain ⟨q0, q1, p0, -, p6, -, p14⟩ := h
  obtain ⟨g, hg, hB⟩ := p14 rfl
  rw [hb] at hg
  cases hg
  have hbz := q1.2 _ _ hb
  have hne : ∀ {v : Value} {j g : Nat}, j ≠ 4 → v.ownBlock = f j → v.ownBlock = some g → ¬ g = b := fun hj hv hg e => hj (q1.1 _ _ b (hv.symm.trans (by rw [hg, e])) hb)
  refine ⟨put6_below q0 hbz.1 _ _ _ _ _ _, hbz.1, Row.put6 (hB.row), ?_, ?_⟩
  · have hh : ∀ g, vN.ownBlock = some g → ¬ g = b := fun g hg => hne (j := 0) (by omega) (p0 rfl).1 hg
    exact own_set (own_set (own_set (own_set (own_set (own_set (p0 rfl).2 hh _) hh _) hh _) hh _) hh _) hh _
  · have hh : ∀ g, vI.ownBlock = some g → ¬ g = b := fun g hg => hne (j := 2) (by omega) (p6 rfl).1 hg
    exact own_set (own_set (own_set (own_set (own_set (own_set (p6 rfl).2 hh _) hh _) hh _) hh _) hh _) hh _
abbrev tnOps : Array Oper := #[{ dst := some 41, op := Op.buildSlice 26 0 #[], type := 26, pos := "laws.go:1373", after := #[], guard := none }, { dst := some 42, op := Op.fieldAddr 28 (Operand.tmp 3) 4, type := 0, pos := "laws.go:1373", after := #[], guard := none }, { dst := some 43, op := Op.load 26 (Operand.tmp 42), type := 26, pos := "laws.go:1373", after := #[{ on := 1, ground := Ground.data }], guard := none }, { dst := some 44, op := Op.call { callee := Callee.builtin Builtin.append, args := #[Operand.tmp 41, Operand.tmp 43], argTypes := #[26, 26] }, type := 26, pos := "laws.go:1373", after := #[{ on := 0, ground := Ground.data }, { on := 2, ground := Ground.data }], guard := none }, { dst := some 45, op := Op.buildSlice 26 1 #[(0, Operand.const (Value.string ⟨#[122, 122]⟩))], type := 26, pos := "laws.go:1373", after := #[], guard := none }, { dst := some 46, op := Op.call { callee := Callee.builtin Builtin.append, args := #[Operand.tmp 44, Operand.tmp 45], argTypes := #[26, 26] }, type := 26, pos := "laws.go:1373", after := #[{ on := 3, ground := Ground.data }, { on := 4, ground := Ground.data }, { on := 3, ground := Ground.chain }], guard := none }, { dst := some 47, op := Op.buildSlice 25 0 #[], type := 25, pos := "laws.go:1373", after := #[], guard := none }, { dst := some 48, op := Op.fieldAddr 28 (Operand.tmp 3) 3, type := 0, pos := "laws.go:1373", after := #[], guard := none }, { dst := some 49, op := Op.load 25 (Operand.tmp 48), type := 25, pos := "laws.go:1373", after := #[{ on := 7, ground := Ground.data }], guard := none }, { dst := some 50, op := Op.call { callee := Callee.builtin Builtin.append, args := #[Operand.tmp 47, Operand.tmp 49], argTypes := #[25, 25] }, type := 25, pos := "laws.go:1373", after := #[{ on := 6, ground := Ground.data }, { on := 8, ground := Ground.data }, { on := 5, ground := Ground.chain }], guard := none }, { dst := some 51, op := Op.build 28 #[], type := 28, pos := "laws.go:1373", after := #[], guard := none }, { dst := some 52, op := Op.buildSlice 25 1 #[(0, Operand.tmp 51)], type := 25, pos := "laws.go:1373", after := #[{ on := 10, ground := Ground.data }], guard := none }, { dst := some 53, op := Op.call { callee := Callee.builtin Builtin.append, args := #[Operand.tmp 50, Operand.tmp 52], argTypes := #[25, 25] }, type := 25, pos := "laws.go:1373", after := #[{ on := 9, ground := Ground.data }, { on := 11, ground := Ground.data }, { on := 9, ground := Ground.chain }], guard := none }, { dst := some 54, op := Op.build 28 #[(0, Operand.const (Value.int IntKind.i64 6)), (4, Operand.tmp 46), (3, Operand.tmp 53)], type := 28, pos := "laws.go:1373", after := #[{ on := 5, ground := Ground.data }, { on := 12, ground := Ground.data }], guard := none }, { dst := some 8, op := Op.alloc 28, type := 0, pos := "laws.go:1373", after := #[], guard := none }, { dst := none, op := Op.store 28 (Operand.tmp 8) (Operand.tmp 54), type := 0, pos := "laws.go:1373", after := #[{ on := 14, ground := Ground.data }, { on := 13, ground := Ground.data }, { on := 12, ground := Ground.chain }, { on := 0, ground := Ground.phase }, { on := 1, ground := Ground.phase }, { on := 2, ground := Ground.phase }, { on := 3, ground := Ground.phase }, { on := 4, ground := Ground.phase }, { on := 5, ground := Ground.phase }, { on := 6, ground := Ground.phase }, { on := 7, ground := Ground.phase }, { on := 8, ground := Ground.phase }, { on := 9, ground := Ground.phase }, { on := 10, ground := Ground.phase }, { on := 11, ground := Ground.phase }, { on := 12, ground := Ground.phase }, { on := 13, ground := Ground.phase }, { on := 14, ground := Ground.phase }], guard := none }]
/-- where the lists of the drawn value lie -/
def SrcT (W0 : World) (na ia : Option Addr) (nl il : Nat) (LN LI : List Value) : Prop := (LN.length = nl * 1 ∧ LI.length = il * 6) ∧ ((∀ u ∈ LN, u.oneCell' = true) ∧ (∀ u ∈ LI, u.oneCell' = true)) ∧ (nl ≤ 1000000 ∧ il ≤ 1000000) ∧ ∀ w', Below W0.heap.size W0 w' → Src w' na nl LN ∧ Src w' ia il LI

def FinT (Q : Exit → Act → World → Prop) (W0 : World) (vb nl il nc ic : Nat) (na ia : Option Addr) (LN LI : List Value) (t0 t1 t2 t4 t5 t6 t7 t9 t10 t11 t12 t13 t14 t15 t16 t17 t18 t19 t20 t21 t22 t23 t24 t25 t26 t27 t28 t29 t30 t31 t32 t33 t34 t35 t36 t37 t38 t39 t40 t55 t56 t57 t58 t59 t60 t61 t62 t63 t64 t65 t66 t67 t68 t69 t70 t71 t72 t73 t74 t75 t76 t77 t78 t79 t80 t81 t82 t83 t84 t85 t86 t87 : Value) : Prop := ∀ (ws : World) (b : Nat) (u41 u44 u45 u46 u47 u50 u52 u53 u54 : Value), (Below W0.heap.size W0 ws ∧ W0.heap.size ≤ b ∧ Row ws b [.int .i64 6, .int .i64 0, .int .i64 0, .string ⟨#[]⟩, u53, u46] ∧ ws.ownsRow W0.heap.size 9 1 u46 (nl + 1) (LN ++ [.string ⟨#[122, 122]⟩]) ∧ ws.ownsRow W0.heap.size 28 6 u53 (il + 1) (LI ++ zero6L)) → Q .normal { tmps := (t0 :: t1 :: t2 :: .pointer (some ⟨vb, 0, none⟩) :: t4 :: t5 :: t6 :: t7 :: .pointer (some ⟨b, 0, none⟩) :: t9 :: t10 :: t11 :: t12 :: t13 :: t14 :: t15 :: t16 :: t17 :: t18 :: t19 :: t20 :: t21 :: t22 :: t23 :: t24 :: t25 :: t26 :: t27 :: t28 :: t29 :: t30 :: t31 :: t32 :: t33 :: t34 :: t35 :: t36 :: t37 :: t38 :: t39 :: t40 :: u41 :: .pointer (some ⟨vb, 5, none⟩) :: .slice na nl nc :: u44 :: u45 :: u46 :: u47 :: .pointer (some ⟨vb, 4, none⟩) :: .slice ia il ic :: u50 :: .agg #[.int .i64 0, .int .i64 0, .int .i64 0, .string ⟨#[]⟩, .slice none 0 0, .slice none 0 0] :: u52 :: u53 :: u54 :: t55 :: t56 :: t57 :: t58 :: t59 :: t60 :: t61 :: t62 :: t63 :: t64 :: t65 :: t66 :: t67 :: t68 :: t69 :: t70 :: t71 :: t72 :: t73 :: t74 :: t75 :: t76 :: t77 :: t78 :: t79 :: t80 :: t81 :: t82 :: t83 :: t84 :: t85 :: t86 :: t87 :: []).toArray, defers := [] } ws
set_option maxRecDepth 100000 in
set_option maxHeartbeats 2000000 in
theorem tn11111_4 {Q : Exit → Act → World → Prop} {t0 t1 t2 t4 t5 t6 t7 t9 t10 t11 t12 t13 t14 t15 t16 t17 t18 t19 t20 t21 t22 t23 t24 t25 t26 t27 t28 t29 t30 t31 t32 t33 t34 t35 t36 t37 t38 t39 t40 t54 t55 t56 t57 t58 t59 t60 t61 t62 t63 t64 t65 t66 t67 t68 t69 t70 t71 t72 t73 t74 t75 t76 t77 t78 t79 t80 t81 t82 t83 t84 t85 t86 t87 : Value} {W0 : World} {vb nl il nc ic : Nat} {na ia : Option Addr} {LN LI : List Value} {w : World} {f : Nat → Option Nat} {u41 u44 u46 u47 u50 u53 : Value} {g4 g11 g14 : Nat} {fl : Array Bool} {A : Act} (hfl : fl = #[true, true, true, true, true, true, true, true, true, true, true, true, true, false, true, false]) (hA : A = { tmps := (t0 :: t1 :: t2 :: .pointer (some ⟨vb, 0, none⟩) :: t4 :: t5 :: t6 :: t7 :: .pointer (some ⟨g14, 0, none⟩) :: t9 :: t10 :: t11 :: t12 :: t13 :: t14 :: t15 :: t16 :: t17 :: t18 :: t19 :: t20 :: t21 :: t22 :: t23 :: t24 :: t25 :: t26 :: t27 :: t28 :: t29 :: t30 :: t31 :: t32 :: t33 :: t34 :: t35 :: t36 :: t37 :: t38 :: t39 :: t40 :: u41 :: .pointer (some ⟨vb, 5, none⟩) :: .slice na nl nc :: u44 :: .slice (some ⟨g4, 0, none⟩) 1 1 :: u46 :: u47 :: .pointer (some ⟨vb, 4, none⟩) :: .slice ia il ic :: u50 :: .agg #[.int .i64 0, .int .i64 0, .int .i64 0, .string ⟨#[]⟩, .slice none 0 0, .slice none 0 0] :: .slice (some ⟨g11, 0, none⟩) 1 1 :: u53 :: t54 :: t55 :: t56 :: t57 :: t58 :: t59 :: t60 :: t61 :: t62 :: t63 :: t64 :: t65 :: t66 :: t67 :: t68 :: t69 :: t70 :: t71 :: t72 :: t73 :: t74 :: t75 :: t76 :: t77 :: t78 :: t79 :: t80 :: t81 :: t82 :: t83 :: t84 :: t85 :: t86 :: t87 :: []).toArray, defers := [] })
    (_hS : SrcT W0 na ia nl il LN LI) (hp : ∀ p d v a w, Q (.panic p) (Act.put a d v) w → Q (.panic p) a w) (hF : FinT Q W0 vb nl il nc ic na ia LN LI t0 t1 t2 t4 t5 t6 t7 t9 t10 t11 t12 t13 t14 t15 t16 t17 t18 t19 t20 t21 t22 t23 t24 t25 t26 t27 t28 t29 t30 t31 t32 t33 t34 t35 t36 t37 t38 t39 t40 t55 t56 t57 t58 t59 t60 t61 t62 t63 t64 t65 t66 t67 t68 t69 t70 t71 t72 t73 t74 t75 t76 t77 t78 t79 t80 t81 t82 t83 t84 t85 t86 t87) (hI : InvT W0 w f ⟨#[122, 122]⟩ u46 (nl + 1) (LN ++ [.string ⟨#[122, 122]⟩]) u53 (il + 1) (LI ++ zero6L) true true true true true) (h14 : f 4 = some g14) :
    wpAnyH Try.prog .any tnOps Q (fun w' => Below W0.heap.size W0 w') 2 fl A w := by
  subst hfl hA
  obtain ⟨aI, cI, rfl, -, -, -⟩ := own_lies (hI.2.2.2.2.1 rfl).2
  obtain ⟨aN, cN, rfl, -, -, -⟩ := own_lies (hI.2.2.1 rfl).2
  have hSw : Below W0.heap.size W0 w := hI.1
  refine wpAnyH_take (i := 13) (v := .agg #[.int .i64 6, .int .i64 0, .int .i64 0, .string ⟨#[]⟩, .slice aI (il + 1) cI, .slice aN (nl + 1) cN]) rfl (by kernel_rfl) (by kernel_rfl) (by kernel_rfl) (fun _ _ _ h => hp _ _ _ _ _ h) (Or.inl ⟨by rfl, ?_⟩) (by assumption) ?_
  · intro w hSw
    (try dsimp only at hSw)
    go_simp
  (try simp only [Act.put, List.getElem_toArray, List.getElem_cons_zero, List.getElem_cons_succ, List.setIfInBounds_toArray, List.set_cons_zero, List.set_cons_succ])
  obtain ⟨s0, s1, s2, s3, s4, s5⟩ : (∃ v, w.cell? ⟨g14, 0, none⟩ = some v) ∧ (∃ v, w.cell? ⟨g14, 1, none⟩ = some v) ∧ (∃ v, w.cell? ⟨g14, 2, none⟩ = some v) ∧ (∃ v, w.cell? ⟨g14, 3, none⟩ = some v) ∧ (∃ v, w.cell? ⟨g14, 4, none⟩ = some v) ∧ (∃ v, w.cell? ⟨g14, 5, none⟩ = some v) := by
    obtain ⟨g, hg, hB⟩ := hI.2.2.2.2.2.2 rfl
    rw [h14] at hg
    cases hg
    have hr := hB.row
    exact ⟨⟨_, (hr 0 _ rfl).1⟩, ⟨_, (hr 1 _ rfl).1⟩, ⟨_, (hr 2 _ rfl).1⟩, ⟨_, (hr 3 _ rfl).1⟩, ⟨_, (hr 4 _ rfl).1⟩, ⟨_, (hr 5 _ rfl).1⟩⟩
  obtain ⟨f0, f1, f2', f3, f4, f5⟩ : w.frozen? ⟨g14, 0, none⟩ = false ∧ w.frozen? ⟨g14, 1, none⟩ = false ∧ w.frozen? ⟨g14, 2, none⟩ = false ∧ w.frozen? ⟨g14, 3, none⟩ = false ∧ w.frozen? ⟨g14, 4, none⟩ = false ∧ w.frozen? ⟨g14, 5, none⟩ = false := by
    obtain ⟨g, hg, hB⟩ := hI.2.2.2.2.2.2 rfl
    rw [h14] at hg
    cases hg
    have hr := hB.row
    exact ⟨(hr 0 _ rfl).2, (hr 1 _ rfl).2, (hr 2 _ rfl).2, (hr 3 _ rfl).2, (hr 4 _ rfl).2, (hr 5 _ rfl).2⟩
  obtain ⟨v0, s0⟩ := s0
  obtain ⟨v1, s1⟩ := s1
  obtain ⟨v2, s2⟩ := s2
  obtain ⟨v3, s3⟩ := s3
  obtain ⟨v4, s4⟩ := s4
  obtain ⟨v5, s5⟩ := s5
  have hFin := hI.boxed h14 (.int .i64 6) (.int .i64 0) (.int .i64 0) (.string ⟨#[]⟩) (.slice aI (il + 1) cI) (.slice aN (nl + 1) cN)
  refine wpAnyH_ready (rs := [15]) (by kernel_rfl) (by simp) ?_
  refine AllReadyH.cons rfl (fun K hK => ?_) AllReadyH.nil
  go_simp
  refine hK.out _ _ hFin.1 (fun _ => ?_)
  clear hK K
  refine wpAnyH_done (by kernel_rfl) ?_ _
  exact hF _ g14 _ _ _ _ _ _ _ _ _ hFin
set_option maxRecDepth 100000 in
set_option maxHeartbeats 2000000 in
theorem tn11110_4 {Q : Exit → Act → World → Prop} {t0 t1 t2 t4 t5 t6 t7 t8 t9 t10 t11 t12 t13 t14 t15 t16 t17 t18 t19 t20 t21 t22 t23 t24 t25 t26 t27 t28 t29 t30 t31 t32 t33 t34 t35 t36 t37 t38 t39 t40 t54 t55 t56 t57 t58 t59 t60 t61 t62 t63 t64 t65 t66 t67 t68 t69 t70 t71 t72 t73 t74 t75 t76 t77 t78 t79 t80 t81 t82 t83 t84 t85 t86 t87 : Value} {W0 : World} {vb nl il nc ic : Nat} {na ia : Option Addr} {LN LI : List Value} {w : World} {f : Nat → Option Nat} {u41 u44 u46 u47 u50 u53 : Value} {g4 g11 : Nat} {fl : Array Bool} {A : Act} (hfl : fl = #[true, true, true, true, true, true, true, true, true, true, true, true, true, false, false, false]) (hA : A = { tmps := (t0 :: t1 :: t2 :: .pointer (some ⟨vb, 0, none⟩) :: t4 :: t5 :: t6 :: t7 :: t8 :: t9 :: t10 :: t11 :: t12 :: t13 :: t14 :: t15 :: t16 :: t17 :: t18 :: t19 :: t20 :: t21 :: t22 :: t23 :: t24 :: t25 :: t26 :: t27 :: t28 :: t29 :: t30 :: t31 :: t32 :: t33 :: t34 :: t35 :: t36 :: t37 :: t38 :: t39 :: t40 :: u41 :: .pointer (some ⟨vb, 5, none⟩) :: .slice na nl nc :: u44 :: .slice (some ⟨g4, 0, none⟩) 1 1 :: u46 :: u47 :: .pointer (some ⟨vb, 4, none⟩) :: .slice ia il ic :: u50 :: .agg #[.int .i64 0, .int .i64 0, .int .i64 0, .string ⟨#[]⟩, .slice none 0 0, .slice none 0 0] :: .slice (some ⟨g11, 0, none⟩) 1 1 :: u53 :: t54 :: t55 :: t56 :: t57 :: t58 :: t59 :: t60 :: t61 :: t62 :: t63 :: t64 :: t65 :: t66 :: t67 :: t68 :: t69 :: t70 :: t71 :: t72 :: t73 :: t74 :: t75 :: t76 :: t77 :: t78 :: t79 :: t80 :: t81 :: t82 :: t83 :: t84 :: t85 :: t86 :: t87 :: []).toArray, defers := [] })
    (_hS : SrcT W0 na ia nl il LN LI) (hp : ∀ p d v a w, Q (.panic p) (Act.put a d v) w → Q (.panic p) a w) (hF : FinT Q W0 vb nl il nc ic na ia LN LI t0 t1 t2 t4 t5 t6 t7 t9 t10 t11 t12 t13 t14 t15 t16 t17 t18 t19 t20 t21 t22 t23 t24 t25 t26 t27 t28 t29 t30 t31 t32 t33 t34 t35 t36 t37 t38 t39 t40 t55 t56 t57 t58 t59 t60 t61 t62 t63 t64 t65 t66 t67 t68 t69 t70 t71 t72 t73 t74 t75 t76 t77 t78 t79 t80 t81 t82 t83 t84 t85 t86 t87) (hI : InvT W0 w f ⟨#[122, 122]⟩ u46 (nl + 1) (LN ++ [.string ⟨#[122, 122]⟩]) u53 (il + 1) (LI ++ zero6L) true true true true false) :
    wpAnyH Try.prog .any tnOps Q (fun w' => Below W0.heap.size W0 w') 3 fl A w := by
  subst hfl hA
  obtain ⟨aI, cI, rfl, -, -, -⟩ := own_lies (hI.2.2.2.2.1 rfl).2
  obtain ⟨aN, cN, rfl, -, -, -⟩ := own_lies (hI.2.2.1 rfl).2
  have hSw : Below W0.heap.size W0 w := hI.1
  refine wpAnyH_take (i := 13) (v := .agg #[.int .i64 6, .int .i64 0, .int .i64 0, .string ⟨#[]⟩, .slice aI (il + 1) cI, .slice aN (nl + 1) cN]) rfl (by kernel_rfl) (by kernel_rfl) (by kernel_rfl) (fun _ _ _ h => hp _ _ _ _ _ h) (Or.inl ⟨by rfl, ?_⟩) (by assumption) ?_
  · intro w hSw
    (try dsimp only at hSw)
    go_simp
  (try simp only [Act.put, List.getElem_toArray, List.getElem_cons_zero, List.getElem_cons_succ, List.setIfInBounds_toArray, List.set_cons_zero, List.set_cons_succ])
  refine wpAnyH_ready (rs := [14]) (by kernel_rfl) (by simp) ?_
  refine AllReadyH.cons rfl (fun K hK => ?_) AllReadyH.nil
  have hI2 := hI.alloc14
  have h14 := updO_at f 4 (some w.heap.size)
  go_simp
  refine hK.out _ _ hI2.1 (fun _ => ?_)
  clear hK K
  obtain ⟨g14, hg14⟩ : ∃ g, w.heap.size = g := ⟨_, rfl⟩
  rw [hg14] at hI2 h14 ⊢
  generalize w.alloc (.cells #[.int .i64 0, .int .i64 0, .int .i64 0, .string ⟨#[]⟩, .slice none 0 0, .slice none 0 0] 28) = w2 at *
  generalize updO f 4 (some g14) = f2 at *
  obtain ⟨s0, s1, s2, s3, s4, s5⟩ : (∃ v, w2.cell? ⟨g14, 0, none⟩ = some v) ∧ (∃ v, w2.cell? ⟨g14, 1, none⟩ = some v) ∧ (∃ v, w2.cell? ⟨g14, 2, none⟩ = some v) ∧ (∃ v, w2.cell? ⟨g14, 3, none⟩ = some v) ∧ (∃ v, w2.cell? ⟨g14, 4, none⟩ = some v) ∧ (∃ v, w2.cell? ⟨g14, 5, none⟩ = some v) := by
    obtain ⟨g, hg, hB⟩ := hI2.2.2.2.2.2.2 rfl
    rw [h14] at hg
    cases hg
    have hr := hB.row
    exact ⟨⟨_, (hr 0 _ rfl).1⟩, ⟨_, (hr 1 _ rfl).1⟩, ⟨_, (hr 2 _ rfl).1⟩, ⟨_, (hr 3 _ rfl).1⟩, ⟨_, (hr 4 _ rfl).1⟩, ⟨_, (hr 5 _ rfl).1⟩⟩
  obtain ⟨f0, f1, f2', f3, f4, f5⟩ : w2.frozen? ⟨g14, 0, none⟩ = false ∧ w2.frozen? ⟨g14, 1, none⟩ = false ∧ w2.frozen? ⟨g14, 2, none⟩ = false ∧ w2.frozen? ⟨g14, 3, none⟩ = false ∧ w2.frozen? ⟨g14, 4, none⟩ = false ∧ w2.frozen? ⟨g14, 5, none⟩ = false := by
    obtain ⟨g, hg, hB⟩ := hI2.2.2.2.2.2.2 rfl
    rw [h14] at hg
    cases hg
    have hr := hB.row
    exact ⟨(hr 0 _ rfl).2, (hr 1 _ rfl).2, (hr 2 _ rfl).2, (hr 3 _ rfl).2, (hr 4 _ rfl).2, (hr 5 _ rfl).2⟩
  obtain ⟨v0, s0⟩ := s0
  obtain ⟨v1, s1⟩ := s1
  obtain ⟨v2, s2⟩ := s2
  obtain ⟨v3, s3⟩ := s3
  obtain ⟨v4, s4⟩ := s4
  obtain ⟨v5, s5⟩ := s5
  have hFin := hI2.boxed h14 (.int .i64 6) (.int .i64 0) (.int .i64 0) (.string ⟨#[]⟩) (.slice aI (il + 1) cI) (.slice aN (nl + 1) cN)
  refine wpAnyH_ready (rs := [15]) (by kernel_rfl) (by simp) ?_
  refine AllReadyH.cons rfl (fun K hK => ?_) AllReadyH.nil
  go_simp
  refine hK.out _ _ hFin.1 (fun _ => ?_)
  clear hK K
  refine wpAnyH_done (by kernel_rfl) ?_ _
  exact hF _ g14 _ _ _ _ _ _ _ _ _ hFin
set_option maxRecDepth 100000 in
set_option maxHeartbeats 2000000 in
theorem tn11111_3 {Q : Exit → Act → World → Prop} {t0 t1 t2 t4 t5 t6 t7 t9 t10 t11 t12 t13 t14 t15 t16 t17 t18 t19 t20 t21 t22 t23 t24 t25 t26 t27 t28 t29 t30 t31 t32 t33 t34 t35 t36 t37 t38 t39 t40 t53 t54 t55 t56 t57 t58 t59 t60 t61 t62 t63 t64 t65 t66 t67 t68 t69 t70 t71 t72 t73 t74 t75 t76 t77 t78 t79 t80 t81 t82 t83 t84 t85 t86 t87 : Value} {W0 : World} {vb nl il nc ic : Nat} {na ia : Option Addr} {LN LI : List Value} {w : World} {f : Nat → Option Nat} {u41 u44 u46 u47 u50 : Value} {g4 g11 g14 : Nat} {fl : Array Bool} {A : Act} (hfl : fl = #[true, true, true, true, true, true, true, true, true, true, true, true, false, false, true, false]) (hA : A = { tmps := (t0 :: t1 :: t2 :: .pointer (some ⟨vb, 0, none⟩) :: t4 :: t5 :: t6 :: t7 :: .pointer (some ⟨g14, 0, none⟩) :: t9 :: t10 :: t11 :: t12 :: t13 :: t14 :: t15 :: t16 :: t17 :: t18 :: t19 :: t20 :: t21 :: t22 :: t23 :: t24 :: t25 :: t26 :: t27 :: t28 :: t29 :: t30 :: t31 :: t32 :: t33 :: t34 :: t35 :: t36 :: t37 :: t38 :: t39 :: t40 :: u41 :: .pointer (some ⟨vb, 5, none⟩) :: .slice na nl nc :: u44 :: .slice (some ⟨g4, 0, none⟩) 1 1 :: u46 :: u47 :: .pointer (some ⟨vb, 4, none⟩) :: .slice ia il ic :: u50 :: .agg #[.int .i64 0, .int .i64 0, .int .i64 0, .string ⟨#[]⟩, .slice none 0 0, .slice none 0 0] :: .slice (some ⟨g11, 0, none⟩) 1 1 :: t53 :: t54 :: t55 :: t56 :: t57 :: t58 :: t59 :: t60 :: t61 :: t62 :: t63 :: t64 :: t65 :: t66 :: t67 :: t68 :: t69 :: t70 :: t71 :: t72 :: t73 :: t74 :: t75 :: t76 :: t77 :: t78 :: t79 :: t80 :: t81 :: t82 :: t83 :: t84 :: t85 :: t86 :: t87 :: []).toArray, defers := [] })
    (hS : SrcT W0 na ia nl il LN LI) (hp : ∀ p d v a w, Q (.panic p) (Act.put a d v) w → Q (.panic p) a w) (hF : FinT Q W0 vb nl il nc ic na ia LN LI t0 t1 t2 t4 t5 t6 t7 t9 t10 t11 t12 t13 t14 t15 t16 t17 t18 t19 t20 t21 t22 t23 t24 t25 t26 t27 t28 t29 t30 t31 t32 t33 t34 t35 t36 t37 t38 t39 t40 t55 t56 t57 t58 t59 t60 t61 t62 t63 t64 t65 t66 t67 t68 t69 t70 t71 t72 t73 t74 t75 t76 t77 t78 t79 t80 t81 t82 t83 t84 t85 t86 t87) (hI : InvT W0 w f ⟨#[122, 122]⟩ u46 (nl + 1) (LN ++ [.string ⟨#[122, 122]⟩]) u50 il LI true true true true true) (h11 : f 3 = some g11) (h14 : f 4 = some g14) :
    wpAnyH Try.prog .any tnOps Q (fun w' => Below W0.heap.size W0 w') 3 fl A w := by
  subst hfl hA
  have hB0 := hI.1
  refine wpAnyH_ready (rs := [12]) (by kernel_rfl) (by simp) ?_
  refine AllReadyH.cons rfl (fun K hK => ?_) AllReadyH.nil
  obtain ⟨i0, hi, hz0, hz1, hz2⟩ := info_parts valInfo
  obtain ⟨⟨HL1, HL2⟩, ⟨HO1, HO2⟩, ⟨hl1, hl2⟩, hSS⟩ := id hS
  have HS : Src w (some ⟨g11, 0, none⟩) 1 zero6L := by
    obtain ⟨g, hg, ho⟩ := hI.2.2.2.2.2.1 rfl
    rw [h11] at hg
    cases hg
    exact ho.src 1
  refine wp_append_lie w _ _ 25 rfl W0.heap.size 28 i0 _ 6 88 Try.underlying25 hi hz0 hz1 hz2 rfl (by decide) u50 il LI rfl (hI.2.2.2.2.1 rfl).2 (some ⟨g11, 0, none⟩) 1 1 zero6L rfl rfl HS (fun u hu => by unfold zero6L at hu; simp at hu; rcases hu with rfl | rfl | rfl | rfl <;> rfl) (by unfold maxLen; omega) (by omega) hB0.size ?_
  intro v' w' hown hgr hbl
  have hI2 := hI.appI hown hgr hbl
  refine hK.out _ _ hI2.1 (fun _ => ?_)
  exact tn11111_4 rfl rfl hS hp hF hI2 ((updO_ne _ _ (by omega)).trans h14)
set_option maxRecDepth 100000 in
set_option maxHeartbeats 2000000 in
theorem tn11110_3 {Q : Exit → Act → World → Prop} {t0 t1 t2 t4 t5 t6 t7 t8 t9 t10 t11 t12 t13 t14 t15 t16 t17 t18 t19 t20 t21 t22 t23 t24 t25 t26 t27 t28 t29 t30 t31 t32 t33 t34 t35 t36 t37 t38 t39 t40 t53 t54 t55 t56 t57 t58 t59 t60 t61 t62 t63 t64 t65 t66 t67 t68 t69 t70 t71 t72 t73 t74 t75 t76 t77 t78 t79 t80 t81 t82 t83 t84 t85 t86 t87 : Value} {W0 : World} {vb nl il nc ic : Nat} {na ia : Option Addr} {LN LI : List Value} {w : World} {f : Nat → Option Nat} {u41 u44 u46 u47 u50 : Value} {g4 g11 : Nat} {fl : Array Bool} {A : Act} (hfl : fl = #[true, true, true, true, true, true, true, true, true, true, true, true, false, false, false, false]) (hA : A = { tmps := (t0 :: t1 :: t2 :: .pointer (some ⟨vb, 0, none⟩) :: t4 :: t5 :: t6 :: t7 :: t8 :: t9 :: t10 :: t11 :: t12 :: t13 :: t14 :: t15 :: t16 :: t17 :: t18 :: t19 :: t20 :: t21 :: t22 :: t23 :: t24 :: t25 :: t26 :: t27 :: t28 :: t29 :: t30 :: t31 :: t32 :: t33 :: t34 :: t35 :: t36 :: t37 :: t38 :: t39 :: t40 :: u41 :: .pointer (some ⟨vb, 5, none⟩) :: .slice na nl nc :: u44 :: .slice (some ⟨g4, 0, none⟩) 1 1 :: u46 :: u47 :: .pointer (some ⟨vb, 4, none⟩) :: .slice ia il ic :: u50 :: .agg #[.int .i64 0, .int .i64 0, .int .i64 0, .string ⟨#[]⟩, .slice none 0 0, .slice none 0 0] :: .slice (some ⟨g11, 0, none⟩) 1 1 :: t53 :: t54 :: t55 :: t56 :: t57 :: t58 :: t59 :: t60 :: t61 :: t62 :: t63 :: t64 :: t65 :: t66 :: t67 :: t68 :: t69 :: t70 :: t71 :: t72 :: t73 :: t74 :: t75 :: t76 :: t77 :: t78 :: t79 :: t80 :: t81 :: t82 :: t83 :: t84 :: t85 :: t86 :: t87 :: []).toArray, defers := [] })
    (hS : SrcT W0 na ia nl il LN LI) (hp : ∀ p d v a w, Q (.panic p) (Act.put a d v) w → Q (.panic p) a w) (hF : FinT Q W0 vb nl il nc ic na ia LN LI t0 t1 t2 t4 t5 t6 t7 t9 t10 t11 t12 t13 t14 t15 t16 t17 t18 t19 t20 t21 t22 t23 t24 t25 t26 t27 t28 t29 t30 t31 t32 t33 t34 t35 t36 t37 t38 t39 t40 t55 t56 t57 t58 t59 t60 t61 t62 t63 t64 t65 t66 t67 t68 t69 t70 t71 t72 t73 t74 t75 t76 t77 t78 t79 t80 t81 t82 t83 t84 t85 t86 t87) (hI : InvT W0 w f ⟨#[122, 122]⟩ u46 (nl + 1) (LN ++ [.string ⟨#[122, 122]⟩]) u50 il LI true true true true false) (h11 : f 3 = some g11) :
    wpAnyH Try.prog .any tnOps Q (fun w' => Below W0.heap.size W0 w') 4 fl A w := by
  subst hfl hA
  have hB0 := hI.1
  refine wpAnyH_ready (rs := [12, 14]) (by kernel_rfl) (by simp) ?_
  refine AllReadyH.cons rfl (fun K hK => ?_) (AllReadyH.cons rfl (fun K hK => ?_) AllReadyH.nil)
  · skip
    obtain ⟨i0, hi, hz0, hz1, hz2⟩ := info_parts valInfo
    obtain ⟨⟨HL1, HL2⟩, ⟨HO1, HO2⟩, ⟨hl1, hl2⟩, hSS⟩ := id hS
    have HS : Src w (some ⟨g11, 0, none⟩) 1 zero6L := by
      obtain ⟨g, hg, ho⟩ := hI.2.2.2.2.2.1 rfl
      rw [h11] at hg
      cases hg
      exact ho.src 1
    refine wp_append_lie w _ _ 25 rfl W0.heap.size 28 i0 _ 6 88 Try.underlying25 hi hz0 hz1 hz2 rfl (by decide) u50 il LI rfl (hI.2.2.2.2.1 rfl).2 (some ⟨g11, 0, none⟩) 1 1 zero6L rfl rfl HS (fun u hu => by unfold zero6L at hu; simp at hu; rcases hu with rfl | rfl | rfl | rfl <;> rfl) (by unfold maxLen; omega) (by omega) hB0.size ?_
    intro v' w' hown hgr hbl
    have hI2 := hI.appI hown hgr hbl
    refine hK.out _ _ hI2.1 (fun _ => ?_)
    exact tn11110_4 rfl rfl hS hp hF hI2
  · skip
    have hI2 := hI.alloc14
    go_simp
    refine hK.out _ _ hI2.1 (fun _ => ?_)
    exact tn11111_3 rfl rfl hS hp hF hI2 ((updO_ne _ _ (by omega)).trans h11) (updO_at _ _ _)
set_option maxRecDepth 100000 in
set_option maxHeartbeats 2000000 in
theorem tn11101_3 {Q : Exit → Act → World → Prop} {t0 t1 t2 t4 t5 t6 t7 t9 t10 t11 t12 t13 t14 t15 t16 t17 t18 t19 t20 t21 t22 t23 t24 t25 t26 t27 t28 t29 t30 t31 t32 t33 t34 t35 t36 t37 t38 t39 t40 t52 t53 t54 t55 t56 t57 t58 t59 t60 t61 t62 t63 t64 t65 t66 t67 t68 t69 t70 t71 t72 t73 t74 t75 t76 t77 t78 t79 t80 t81 t82 t83 t84 t85 t86 t87 : Value} {W0 : World} {vb nl il nc ic : Nat} {na ia : Option Addr} {LN LI : List Value} {w : World} {f : Nat → Option Nat} {u41 u44 u46 u47 u50 : Value} {g4 g14 : Nat} {fl : Array Bool} {A : Act} (hfl : fl = #[true, true, true, true, true, true, true, true, true, true, true, false, false, false, true, false]) (hA : A = { tmps := (t0 :: t1 :: t2 :: .pointer (some ⟨vb, 0, none⟩) :: t4 :: t5 :: t6 :: t7 :: .pointer (some ⟨g14, 0, none⟩) :: t9 :: t10 :: t11 :: t12 :: t13 :: t14 :: t15 :: t16 :: t17 :: t18 :: t19 :: t20 :: t21 :: t22 :: t23 :: t24 :: t25 :: t26 :: t27 :: t28 :: t29 :: t30 :: t31 :: t32 :: t33 :: t34 :: t35 :: t36 :: t37 :: t38 :: t39 :: t40 :: u41 :: .pointer (some ⟨vb, 5, none⟩) :: .slice na nl nc :: u44 :: .slice (some ⟨g4, 0, none⟩) 1 1 :: u46 :: u47 :: .pointer (some ⟨vb, 4, none⟩) :: .slice ia il ic :: u50 :: .agg #[.int .i64 0, .int .i64 0, .int .i64 0, .string ⟨#[]⟩, .slice none 0 0, .slice none 0 0] :: t52 :: t53 :: t54 :: t55 :: t56 :: t57 :: t58 :: t59 :: t60 :: t61 :: t62 :: t63 :: t64 :: t65 :: t66 :: t67 :: t68 :: t69 :: t70 :: t71 :: t72 :: t73 :: t74 :: t75 :: t76 :: t77 :: t78 :: t79 :: t80 :: t81 :: t82 :: t83 :: t84 :: t85 :: t86 :: t87 :: []).toArray, defers := [] })
    (hS : SrcT W0 na ia nl il LN LI) (hp : ∀ p d v a w, Q (.panic p) (Act.put a d v) w → Q (.panic p) a w) (hF : FinT Q W0 vb nl il nc ic na ia LN LI t0 t1 t2 t4 t5 t6 t7 t9 t10 t11 t12 t13 t14 t15 t16 t17 t18 t19 t20 t21 t22 t23 t24 t25 t26 t27 t28 t29 t30 t31 t32 t33 t34 t35 t36 t37 t38 t39 t40 t55 t56 t57 t58 t59 t60 t61 t62 t63 t64 t65 t66 t67 t68 t69 t70 t71 t72 t73 t74 t75 t76 t77 t78 t79 t80 t81 t82 t83 t84 t85 t86 t87) (hI : InvT W0 w f ⟨#[122, 122]⟩ u46 (nl + 1) (LN ++ [.string ⟨#[122, 122]⟩]) u50 il LI true true true false true) (h14 : f 4 = some g14) :
    wpAnyH Try.prog .any tnOps Q (fun w' => Below W0.heap.size W0 w') 4 fl A w := by
  subst hfl hA
  have hB0 := hI.1
  refine wpAnyH_ready (rs := [11]) (by kernel_rfl) (by simp) ?_
  refine AllReadyH.cons rfl (fun K hK => ?_) AllReadyH.nil
  have hI2 := hI.alloc11
  go_simp
  refine hK.out _ _ hI2.1 (fun _ => ?_)
  exact tn11111_3 rfl rfl hS hp hF hI2 (updO_at _ _ _) ((updO_ne _ _ (by omega)).trans h14)
set_option maxRecDepth 100000 in
set_option maxHeartbeats 2000000 in
theorem tn11100_3 {Q : Exit → Act → World → Prop} {t0 t1 t2 t4 t5 t6 t7 t8 t9 t10 t11 t12 t13 t14 t15 t16 t17 t18 t19 t20 t21 t22 t23 t24 t25 t26 t27 t28 t29 t30 t31 t32 t33 t34 t35 t36 t37 t38 t39 t40 t52 t53 t54 t55 t56 t57 t58 t59 t60 t61 t62 t63 t64 t65 t66 t67 t68 t69 t70 t71 t72 t73 t74 t75 t76 t77 t78 t79 t80 t81 t82 t83 t84 t85 t86 t87 : Value} {W0 : World} {vb nl il nc ic : Nat} {na ia : Option Addr} {LN LI : List Value} {w : World} {f : Nat → Option Nat} {u41 u44 u46 u47 u50 : Value} {g4 : Nat} {fl : Array Bool} {A : Act} (hfl : fl = #[true, true, true, true, true, true, true, true, true, true, true, false, false, false, false, false]) (hA : A = { tmps := (t0 :: t1 :: t2 :: .pointer (some ⟨vb, 0, none⟩) :: t4 :: t5 :: t6 :: t7 :: t8 :: t9 :: t10 :: t11 :: t12 :: t13 :: t14 :: t15 :: t16 :: t17 :: t18 :: t19 :: t20 :: t21 :: t22 :: t23 :: t24 :: t25 :: t26 :: t27 :: t28 :: t29 :: t30 :: t31 :: t32 :: t33 :: t34 :: t35 :: t36 :: t37 :: t38 :: t39 :: t40 :: u41 :: .pointer (some ⟨vb, 5, none⟩) :: .slice na nl nc :: u44 :: .slice (some ⟨g4, 0, none⟩) 1 1 :: u46 :: u47 :: .pointer (some ⟨vb, 4, none⟩) :: .slice ia il ic :: u50 :: .agg #[.int .i64 0, .int .i64 0, .int .i64 0, .string ⟨#[]⟩, .slice none 0 0, .slice none 0 0] :: t52 :: t53 :: t54 :: t55 :: t56 :: t57 :: t58 :: t59 :: t60 :: t61 :: t62 :: t63 :: t64 :: t65 :: t66 :: t67 :: t68 :: t69 :: t70 :: t71 :: t72 :: t73 :: t74 :: t75 :: t76 :: t77 :: t78 :: t79 :: t80 :: t81 :: t82 :: t83 :: t84 :: t85 :: t86 :: t87 :: []).toArray, defers := [] })
    (hS : SrcT W0 na ia nl il LN LI) (hp : ∀ p d v a w, Q (.panic p) (Act.put a d v) w → Q (.panic p) a w) (hF : FinT Q W0 vb nl il nc ic na ia LN LI t0 t1 t2 t4 t5 t6 t7 t9 t10 t11 t12 t13 t14 t15 t16 t17 t18 t19 t20 t21 t22 t23 t24 t25 t26 t27 t28 t29 t30 t31 t32 t33 t34 t35 t36 t37 t38 t39 t40 t55 t56 t57 t58 t59 t60 t61 t62 t63 t64 t65 t66 t67 t68 t69 t70 t71 t72 t73 t74 t75 t76 t77 t78 t79 t80 t81 t82 t83 t84 t85 t86 t87) (hI : InvT W0 w f ⟨#[122, 122]⟩ u46 (nl + 1) (LN ++ [.string ⟨#[122, 122]⟩]) u50 il LI true true true false false) :
    wpAnyH Try.prog .any tnOps Q (fun w' => Below W0.heap.size W0 w') 5 fl A w := by
  subst hfl hA
  have hB0 := hI.1
  refine wpAnyH_ready (rs := [11, 14]) (by kernel_rfl) (by simp) ?_
  refine AllReadyH.cons rfl (fun K hK => ?_) (AllReadyH.cons rfl (fun K hK => ?_) AllReadyH.nil)
  · skip
    have hI2 := hI.alloc11
    go_simp
    refine hK.out _ _ hI2.1 (fun _ => ?_)
    exact tn11110_3 rfl rfl hS hp hF hI2 (updO_at _ _ _)
  · skip
    have hI2 := hI.alloc14
    go_simp
    refine hK.out _ _ hI2.1 (fun _ => ?_)
    exact tn11101_3 rfl rfl hS hp hF hI2 (updO_at _ _ _)
set_option maxRecDepth 100000 in
set_option maxHeartbeats 2000000 in
theorem tn11111_2 {Q : Exit → Act → World → Prop} {t0 t1 t2 t4 t5 t6 t7 t9 t10 t11 t12 t13 t14 t15 t16 t17 t18 t19 t20 t21 t22 t23 t24 t25 t26 t27 t28 t29 t30 t31 t32 t33 t34 t35 t36 t37 t38 t39 t40 t50 t53 t54 t55 t56 t57 t58 t59 t60 t61 t62 t63 t64 t65 t66 t67 t68 t69 t70 t71 t72 t73 t74 t75 t76 t77 t78 t79 t80 t81 t82 t83 t84 t85 t86 t87 : Value} {W0 : World} {vb nl il nc ic : Nat} {na ia : Option Addr} {LN LI : List Value} {w : World} {f : Nat → Option Nat} {u41 u44 u46 u47 : Value} {g4 g11 g14 : Nat} {fl : Array Bool} {A : Act} (hfl : fl = #[true, true, true, true, true, true, true, true, true, false, true, true, false, false, true, false]) (hA : A = { tmps := (t0 :: t1 :: t2 :: .pointer (some ⟨vb, 0, none⟩) :: t4 :: t5 :: t6 :: t7 :: .pointer (some ⟨g14, 0, none⟩) :: t9 :: t10 :: t11 :: t12 :: t13 :: t14 :: t15 :: t16 :: t17 :: t18 :: t19 :: t20 :: t21 :: t22 :: t23 :: t24 :: t25 :: t26 :: t27 :: t28 :: t29 :: t30 :: t31 :: t32 :: t33 :: t34 :: t35 :: t36 :: t37 :: t38 :: t39 :: t40 :: u41 :: .pointer (some ⟨vb, 5, none⟩) :: .slice na nl nc :: u44 :: .slice (some ⟨g4, 0, none⟩) 1 1 :: u46 :: u47 :: .pointer (some ⟨vb, 4, none⟩) :: .slice ia il ic :: t50 :: .agg #[.int .i64 0, .int .i64 0, .int .i64 0, .string ⟨#[]⟩, .slice none 0 0, .slice none 0 0] :: .slice (some ⟨g11, 0, none⟩) 1 1 :: t53 :: t54 :: t55 :: t56 :: t57 :: t58 :: t59 :: t60 :: t61 :: t62 :: t63 :: t64 :: t65 :: t66 :: t67 :: t68 :: t69 :: t70 :: t71 :: t72 :: t73 :: t74 :: t75 :: t76 :: t77 :: t78 :: t79 :: t80 :: t81 :: t82 :: t83 :: t84 :: t85 :: t86 :: t87 :: []).toArray, defers := [] })
    (hS : SrcT W0 na ia nl il LN LI) (hp : ∀ p d v a w, Q (.panic p) (Act.put a d v) w → Q (.panic p) a w) (hF : FinT Q W0 vb nl il nc ic na ia LN LI t0 t1 t2 t4 t5 t6 t7 t9 t10 t11 t12 t13 t14 t15 t16 t17 t18 t19 t20 t21 t22 t23 t24 t25 t26 t27 t28 t29 t30 t31 t32 t33 t34 t35 t36 t37 t38 t39 t40 t55 t56 t57 t58 t59 t60 t61 t62 t63 t64 t65 t66 t67 t68 t69 t70 t71 t72 t73 t74 t75 t76 t77 t78 t79 t80 t81 t82 t83 t84 t85 t86 t87) (hI : InvT W0 w f ⟨#[122, 122]⟩ u46 (nl + 1) (LN ++ [.string ⟨#[122, 122]⟩]) u47 0 [] true true true true true) (h11 : f 3 = some g11) (h14 : f 4 = some g14) :
    wpAnyH Try.prog .any tnOps Q (fun w' => Below W0.heap.size W0 w') 4 fl A w := by
  subst hfl hA
  have hB0 := hI.1
  refine wpAnyH_ready (rs := [9]) (by kernel_rfl) (by simp) ?_
  refine AllReadyH.cons rfl (fun K hK => ?_) AllReadyH.nil
  obtain ⟨i0, hi, hz0, hz1, hz2⟩ := info_parts valInfo
  obtain ⟨⟨HL1, HL2⟩, ⟨HO1, HO2⟩, ⟨hl1, hl2⟩, hSS⟩ := id hS
  have HS := hSS _ hB0
  refine wp_append_lie w _ _ 25 rfl W0.heap.size 28 i0 _ 6 88 Try.underlying25 hi hz0 hz1 hz2 rfl (by decide) u47 0 [] rfl (hI.2.2.2.2.1 rfl).2 ia il ic LI rfl HL2 HS.2 HO2 (by unfold maxLen; omega) (by omega) hB0.size ?_
  intro v' w' hown hgr hbl
  have hI2 := hI.appI hown hgr hbl
  rw [List.nil_append, Nat.zero_add] at hI2
  refine hK.out _ _ hI2.1 (fun _ => ?_)
  exact tn11111_3 rfl rfl hS hp hF hI2 ((updO_ne _ _ (by omega)).trans h11) ((updO_ne _ _ (by omega)).trans h14)
set_option maxRecDepth 100000 in
set_option maxHeartbeats 2000000 in
theorem tn11110_2 {Q : Exit → Act → World → Prop} {t0 t1 t2 t4 t5 t6 t7 t8 t9 t10 t11 t12 t13 t14 t15 t16 t17 t18 t19 t20 t21 t22 t23 t24 t25 t26 t27 t28 t29 t30 t31 t32 t33 t34 t35 t36 t37 t38 t39 t40 t50 t53 t54 t55 t56 t57 t58 t59 t60 t61 t62 t63 t64 t65 t66 t67 t68 t69 t70 t71 t72 t73 t74 t75 t76 t77 t78 t79 t80 t81 t82 t83 t84 t85 t86 t87 : Value} {W0 : World} {vb nl il nc ic : Nat} {na ia : Option Addr} {LN LI : List Value} {w : World} {f : Nat → Option Nat} {u41 u44 u46 u47 : Value} {g4 g11 : Nat} {fl : Array Bool} {A : Act} (hfl : fl = #[true, true, true, true, true, true, true, true, true, false, true, true, false, false, false, false]) (hA : A = { tmps := (t0 :: t1 :: t2 :: .pointer (some ⟨vb, 0, none⟩) :: t4 :: t5 :: t6 :: t7 :: t8 :: t9 :: t10 :: t11 :: t12 :: t13 :: t14 :: t15 :: t16 :: t17 :: t18 :: t19 :: t20 :: t21 :: t22 :: t23 :: t24 :: t25 :: t26 :: t27 :: t28 :: t29 :: t30 :: t31 :: t32 :: t33 :: t34 :: t35 :: t36 :: t37 :: t38 :: t39 :: t40 :: u41 :: .pointer (some ⟨vb, 5, none⟩) :: .slice na nl nc :: u44 :: .slice (some ⟨g4, 0, none⟩) 1 1 :: u46 :: u47 :: .pointer (some ⟨vb, 4, none⟩) :: .slice ia il ic :: t50 :: .agg #[.int .i64 0, .int .i64 0, .int .i64 0, .string ⟨#[]⟩, .slice none 0 0, .slice none 0 0] :: .slice (some ⟨g11, 0, none⟩) 1 1 :: t53 :: t54 :: t55 :: t56 :: t57 :: t58 :: t59 :: t60 :: t61 :: t62 :: t63 :: t64 :: t65 :: t66 :: t67 :: t68 :: t69 :: t70 :: t71 :: t72 :: t73 :: t74 :: t75 :: t76 :: t77 :: t78 :: t79 :: t80 :: t81 :: t82 :: t83 :: t84 :: t85 :: t86 :: t87 :: []).toArray, defers := [] })
    (hS : SrcT W0 na ia nl il LN LI) (hp : ∀ p d v a w, Q (.panic p) (Act.put a d v) w → Q (.panic p) a w) (hF : FinT Q W0 vb nl il nc ic na ia LN LI t0 t1 t2 t4 t5 t6 t7 t9 t10 t11 t12 t13 t14 t15 t16 t17 t18 t19 t20 t21 t22 t23 t24 t25 t26 t27 t28 t29 t30 t31 t32 t33 t34 t35 t36 t37 t38 t39 t40 t55 t56 t57 t58 t59 t60 t61 t62 t63 t64 t65 t66 t67 t68 t69 t70 t71 t72 t73 t74 t75 t76 t77 t78 t79 t80 t81 t82 t83 t84 t85 t86 t87) (hI : InvT W0 w f ⟨#[122, 122]⟩ u46 (nl + 1) (LN ++ [.string ⟨#[122, 122]⟩]) u47 0 [] true true true true false) (h11 : f 3 = some g11) :
    wpAnyH Try.prog .any tnOps Q (fun w' => Below W0.heap.size W0 w') 5 fl A w := by
  subst hfl hA
  have hB0 := hI.1
  refine wpAnyH_ready (rs := [9, 14]) (by kernel_rfl) (by simp) ?_
  refine AllReadyH.cons rfl (fun K hK => ?_) (AllReadyH.cons rfl (fun K hK => ?_) AllReadyH.nil)
  · skip
    obtain ⟨i0, hi, hz0, hz1, hz2⟩ := info_parts valInfo
    obtain ⟨⟨HL1, HL2⟩, ⟨HO1, HO2⟩, ⟨hl1, hl2⟩, hSS⟩ := id hS
    have HS := hSS _ hB0
    refine wp_append_lie w _ _ 25 rfl W0.heap.size 28 i0 _ 6 88 Try.underlying25 hi hz0 hz1 hz2 rfl (by decide) u47 0 [] rfl (hI.2.2.2.2.1 rfl).2 ia il ic LI rfl HL2 HS.2 HO2 (by unfold maxLen; omega) (by omega) hB0.size ?_
    intro v' w' hown hgr hbl
    have hI2 := hI.appI hown hgr hbl
    rw [List.nil_append, Nat.zero_add] at hI2
    refine hK.out _ _ hI2.1 (fun _ => ?_)
    exact tn11110_3 rfl rfl hS hp hF hI2 ((updO_ne _ _ (by omega)).trans h11)
  · skip
    have hI2 := hI.alloc14
    go_simp
    refine hK.out _ _ hI2.1 (fun _ => ?_)
    exact tn11111_2 rfl rfl hS hp hF hI2 ((updO_ne _ _ (by omega)).trans h11) (updO_at _ _ _)
set_option maxRecDepth 100000 in
set_option maxHeartbeats 2000000 in
theorem tn11101_2 {Q : Exit → Act → World → Prop} {t0 t1 t2 t4 t5 t6 t7 t9 t10 t11 t12 t13 t14 t15 t16 t17 t18 t19 t20 t21 t22 t23 t24 t25 t26 t27 t28 t29 t30 t31 t32 t33 t34 t35 t36 t37 t38 t39 t40 t50 t52 t53 t54 t55 t56 t57 t58 t59 t60 t61 t62 t63 t64 t65 t66 t67 t68 t69 t70 t71 t72 t73 t74 t75 t76 t77 t78 t79 t80 t81 t82 t83 t84 t85 t86 t87 : Value} {W0 : World} {vb nl il nc ic : Nat} {na ia : Option Addr} {LN LI : List Value} {w : World} {f : Nat → Option Nat} {u41 u44 u46 u47 : Value} {g4 g14 : Nat} {fl : Array Bool} {A : Act} (hfl : fl = #[true, true, true, true, true, true, true, true, true, false, true, false, false, false, true, false]) (hA : A = { tmps := (t0 :: t1 :: t2 :: .pointer (some ⟨vb, 0, none⟩) :: t4 :: t5 :: t6 :: t7 :: .pointer (some ⟨g14, 0, none⟩) :: t9 :: t10 :: t11 :: t12 :: t13 :: t14 :: t15 :: t16 :: t17 :: t18 :: t19 :: t20 :: t21 :: t22 :: t23 :: t24 :: t25 :: t26 :: t27 :: t28 :: t29 :: t30 :: t31 :: t32 :: t33 :: t34 :: t35 :: t36 :: t37 :: t38 :: t39 :: t40 :: u41 :: .pointer (some ⟨vb, 5, none⟩) :: .slice na nl nc :: u44 :: .slice (some ⟨g4, 0, none⟩) 1 1 :: u46 :: u47 :: .pointer (some ⟨vb, 4, none⟩) :: .slice ia il ic :: t50 :: .agg #[.int .i64 0, .int .i64 0, .int .i64 0, .string ⟨#[]⟩, .slice none 0 0, .slice none 0 0] :: t52 :: t53 :: t54 :: t55 :: t56 :: t57 :: t58 :: t59 :: t60 :: t61 :: t62 :: t63 :: t64 :: t65 :: t66 :: t67 :: t68 :: t69 :: t70 :: t71 :: t72 :: t73 :: t74 :: t75 :: t76 :: t77 :: t78 :: t79 :: t80 :: t81 :: t82 :: t83 :: t84 :: t85 :: t86 :: t87 :: []).toArray, defers := [] })
    (hS : SrcT W0 na ia nl il LN LI) (hp : ∀ p d v a w, Q (.panic p) (Act.put a d v) w → Q (.panic p) a w) (hF : FinT Q W0 vb nl il nc ic na ia LN LI t0 t1 t2 t4 t5 t6 t7 t9 t10 t11 t12 t13 t14 t15 t16 t17 t18 t19 t20 t21 t22 t23 t24 t25 t26 t27 t28 t29 t30 t31 t32 t33 t34 t35 t36 t37 t38 t39 t40 t55 t56 t57 t58 t59 t60 t61 t62 t63 t64 t65 t66 t67 t68 t69 t70 t71 t72 t73 t74 t75 t76 t77 t78 t79 t80 t81 t82 t83 t84 t85 t86 t87) (hI : InvT W0 w f ⟨#[122, 122]⟩ u46 (nl + 1) (LN ++ [.string ⟨#[122, 122]⟩]) u47 0 [] true true true false true) (h14 : f 4 = some g14) :
    wpAnyH Try.prog .any tnOps Q (fun w' => Below W0.heap.size W0 w') 5 fl A w := by
  subst hfl hA
  have hB0 := hI.1
  refine wpAnyH_ready (rs := [9, 11]) (by kernel_rfl) (by simp) ?_
  refine AllReadyH.cons rfl (fun K hK => ?_) (AllReadyH.cons rfl (fun K hK => ?_) AllReadyH.nil)
  · skip
    obtain ⟨i0, hi, hz0, hz1, hz2⟩ := info_parts valInfo
    obtain ⟨⟨HL1, HL2⟩, ⟨HO1, HO2⟩, ⟨hl1, hl2⟩, hSS⟩ := id hS
    have HS := hSS _ hB0
    refine wp_append_lie w _ _ 25 rfl W0.heap.size 28 i0 _ 6 88 Try.underlying25 hi hz0 hz1 hz2 rfl (by decide) u47 0 [] rfl (hI.2.2.2.2.1 rfl).2 ia il ic LI rfl HL2 HS.2 HO2 (by unfold maxLen; omega) (by omega) hB0.size ?_
    intro v' w' hown hgr hbl
    have hI2 := hI.appI hown hgr hbl
    rw [List.nil_append, Nat.zero_add] at hI2
    refine hK.out _ _ hI2.1 (fun _ => ?_)
    exact tn11101_3 rfl rfl hS hp hF hI2 ((updO_ne _ _ (by omega)).trans h14)
  · skip
    have hI2 := hI.alloc11
    go_simp
    refine hK.out _ _ hI2.1 (fun _ => ?_)
    exact tn11111_2 rfl rfl hS hp hF hI2 (updO_at _ _ _) ((updO_ne _ _ (by omega)).trans h14)
set_option maxRecDepth 100000 in
set_option maxHeartbeats 2000000 in
theorem tn11011_2 {Q : Exit → Act → World → Prop} {t0 t1 t2 t4 t5 t6 t7 t9 t10 t11 t12 t13 t14 t15 t16 t17 t18 t19 t20 t21 t22 t23 t24 t25 t26 t27 t28 t29 t30 t31 t32 t33 t34 t35 t36 t37 t38 t39 t40 t47 t50 t53 t54 t55 t56 t57 t58 t59 t60 t61 t62 t63 t64 t65 t66 t67 t68 t69 t70 t71 t72 t73 t74 t75 t76 t77 t78 t79 t80 t81 t82 t83 t84 t85 t86 t87 : Value} {W0 : World} {vb nl il nc ic : Nat} {na ia : Option Addr} {LN LI : List Value} {w : World} {f : Nat → Option Nat} {u41 u44 u46 uI : Value} {g4 g11 g14 : Nat} {fl : Array Bool} {A : Act} (hfl : fl = #[true, true, true, true, true, true, false, true, true, false, true, true, false, false, true, false]) (hA : A = { tmps := (t0 :: t1 :: t2 :: .pointer (some ⟨vb, 0, none⟩) :: t4 :: t5 :: t6 :: t7 :: .pointer (some ⟨g14, 0, none⟩) :: t9 :: t10 :: t11 :: t12 :: t13 :: t14 :: t15 :: t16 :: t17 :: t18 :: t19 :: t20 :: t21 :: t22 :: t23 :: t24 :: t25 :: t26 :: t27 :: t28 :: t29 :: t30 :: t31 :: t32 :: t33 :: t34 :: t35 :: t36 :: t37 :: t38 :: t39 :: t40 :: u41 :: .pointer (some ⟨vb, 5, none⟩) :: .slice na nl nc :: u44 :: .slice (some ⟨g4, 0, none⟩) 1 1 :: u46 :: t47 :: .pointer (some ⟨vb, 4, none⟩) :: .slice ia il ic :: t50 :: .agg #[.int .i64 0, .int .i64 0, .int .i64 0, .string ⟨#[]⟩, .slice none 0 0, .slice none 0 0] :: .slice (some ⟨g11, 0, none⟩) 1 1 :: t53 :: t54 :: t55 :: t56 :: t57 :: t58 :: t59 :: t60 :: t61 :: t62 :: t63 :: t64 :: t65 :: t66 :: t67 :: t68 :: t69 :: t70 :: t71 :: t72 :: t73 :: t74 :: t75 :: t76 :: t77 :: t78 :: t79 :: t80 :: t81 :: t82 :: t83 :: t84 :: t85 :: t86 :: t87 :: []).toArray, defers := [] })
    (hS : SrcT W0 na ia nl il LN LI) (hp : ∀ p d v a w, Q (.panic p) (Act.put a d v) w → Q (.panic p) a w) (hF : FinT Q W0 vb nl il nc ic na ia LN LI t0 t1 t2 t4 t5 t6 t7 t9 t10 t11 t12 t13 t14 t15 t16 t17 t18 t19 t20 t21 t22 t23 t24 t25 t26 t27 t28 t29 t30 t31 t32 t33 t34 t35 t36 t37 t38 t39 t40 t55 t56 t57 t58 t59 t60 t61 t62 t63 t64 t65 t66 t67 t68 t69 t70 t71 t72 t73 t74 t75 t76 t77 t78 t79 t80 t81 t82 t83 t84 t85 t86 t87) (hI : InvT W0 w f ⟨#[122, 122]⟩ u46 (nl + 1) (LN ++ [.string ⟨#[122, 122]⟩]) uI 0 [] true true false true true) (h11 : f 3 = some g11) (h14 : f 4 = some g14) :
    wpAnyH Try.prog .any tnOps Q (fun w' => Below W0.heap.size W0 w') 5 fl A w := by
  subst hfl hA
  have hB0 := hI.1
  refine wpAnyH_ready (rs := [6]) (by kernel_rfl) (by simp) ?_
  refine AllReadyH.cons rfl (fun K hK => ?_) AllReadyH.nil
  have hI2 := hI.alloc6
  go_simp
  refine hK.out _ _ hI2.1 (fun _ => ?_)
  exact tn11111_2 rfl rfl hS hp hF hI2 ((updO_ne _ _ (by omega)).trans h11) ((updO_ne _ _ (by omega)).trans h14)
set_option maxRecDepth 100000 in
set_option maxHeartbeats 2000000 in
theorem tn11100_2 {Q : Exit → Act → World → Prop} {t0 t1 t2 t4 t5 t6 t7 t8 t9 t10 t11 t12 t13 t14 t15 t16 t17 t18 t19 t20 t21 t22 t23 t24 t25 t26 t27 t28 t29 t30 t31 t32 t33 t34 t35 t36 t37 t38 t39 t40 t50 t52 t53 t54 t55 t56 t57 t58 t59 t60 t61 t62 t63 t64 t65 t66 t67 t68 t69 t70 t71 t72 t73 t74 t75 t76 t77 t78 t79 t80 t81 t82 t83 t84 t85 t86 t87 : Value} {W0 : World} {vb nl il nc ic : Nat} {na ia : Option Addr} {LN LI : List Value} {w : World} {f : Nat → Option Nat} {u41 u44 u46 u47 : Value} {g4 : Nat} {fl : Array Bool} {A : Act} (hfl : fl = #[true, true, true, true, true, true, true, true, true, false, true, false, false, false, false, false]) (hA : A = { tmps := (t0 :: t1 :: t2 :: .pointer (some ⟨vb, 0, none⟩) :: t4 :: t5 :: t6 :: t7 :: t8 :: t9 :: t10 :: t11 :: t12 :: t13 :: t14 :: t15 :: t16 :: t17 :: t18 :: t19 :: t20 :: t21 :: t22 :: t23 :: t24 :: t25 :: t26 :: t27 :: t28 :: t29 :: t30 :: t31 :: t32 :: t33 :: t34 :: t35 :: t36 :: t37 :: t38 :: t39 :: t40 :: u41 :: .pointer (some ⟨vb, 5, none⟩) :: .slice na nl nc :: u44 :: .slice (some ⟨g4, 0, none⟩) 1 1 :: u46 :: u47 :: .pointer (some ⟨vb, 4, none⟩) :: .slice ia il ic :: t50 :: .agg #[.int .i64 0, .int .i64 0, .int .i64 0, .string ⟨#[]⟩, .slice none 0 0, .slice none 0 0] :: t52 :: t53 :: t54 :: t55 :: t56 :: t57 :: t58 :: t59 :: t60 :: t61 :: t62 :: t63 :: t64 :: t65 :: t66 :: t67 :: t68 :: t69 :: t70 :: t71 :: t72 :: t73 :: t74 :: t75 :: t76 :: t77 :: t78 :: t79 :: t80 :: t81 :: t82 :: t83 :: t84 :: t85 :: t86 :: t87 :: []).toArray, defers := [] })
    (hS : SrcT W0 na ia nl il LN LI) (hp : ∀ p d v a w, Q (.panic p) (Act.put a d v) w → Q (.panic p) a w) (hF : FinT Q W0 vb nl il nc ic na ia LN LI t0 t1 t2 t4 t5 t6 t7 t9 t10 t11 t12 t13 t14 t15 t16 t17 t18 t19 t20 t21 t22 t23 t24 t25 t26 t27 t28 t29 t30 t31 t32 t33 t34 t35 t36 t37 t38 t39 t40 t55 t56 t57 t58 t59 t60 t61 t62 t63 t64 t65 t66 t67 t68 t69 t70 t71 t72 t73 t74 t75 t76 t77 t78 t79 t80 t81 t82 t83 t84 t85 t86 t87) (hI : InvT W0 w f ⟨#[122, 122]⟩ u46 (nl + 1) (LN ++ [.string ⟨#[122, 122]⟩]) u47 0 [] true true true false false) :
    wpAnyH Try.prog .any tnOps Q (fun w' => Below W0.heap.size W0 w') 6 fl A w := by
  subst hfl hA
  have hB0 := hI.1
  refine wpAnyH_ready (rs := [9, 11, 14]) (by kernel_rfl) (by simp) ?_
  refine AllReadyH.cons rfl (fun K hK => ?_) (AllReadyH.cons rfl (fun K hK => ?_) (AllReadyH.cons rfl (fun K hK => ?_) AllReadyH.nil))
  · skip
    obtain ⟨i0, hi, hz0, hz1, hz2⟩ := info_parts valInfo
    obtain ⟨⟨HL1, HL2⟩, ⟨HO1, HO2⟩, ⟨hl1, hl2⟩, hSS⟩ := id hS
    have HS := hSS _ hB0
    refine wp_append_lie w _ _ 25 rfl W0.heap.size 28 i0 _ 6 88 Try.underlying25 hi hz0 hz1 hz2 rfl (by decide) u47 0 [] rfl (hI.2.2.2.2.1 rfl).2 ia il ic LI rfl HL2 HS.2 HO2 (by unfold maxLen; omega) (by omega) hB0.size ?_
    intro v' w' hown hgr hbl
    have hI2 := hI.appI hown hgr hbl
    rw [List.nil_append, Nat.zero_add] at hI2
    refine hK.out _ _ hI2.1 (fun _ => ?_)
    exact tn11100_3 rfl rfl hS hp hF hI2
  · skip
    have hI2 := hI.alloc11
    go_simp
    refine hK.out _ _ hI2.1 (fun _ => ?_)
    exact tn11110_2 rfl rfl hS hp hF hI2 (updO_at _ _ _)
  · skip
    have hI2 := hI.alloc14
    go_simp
    refine hK.out _ _ hI2.1 (fun _ => ?_)
    exact tn11101_2 rfl rfl hS hp hF hI2 (updO_at _ _ _)
set_option maxRecDepth 100000 in
set_option maxHeartbeats 2000000 in
theorem tn11010_2 {Q : Exit → Act → World → Prop} {t0 t1 t2 t4 t5 t6 t7 t8 t9 t10 t11 t12 t13 t14 t15 t16 t17 t18 t19 t20 t21 t22 t23 t24 t25 t26 t27 t28 t29 t30 t31 t32 t33 t34 t35 t36 t37 t38 t39 t40 t47 t50 t53 t54 t55 t56 t57 t58 t59 t60 t61 t62 t63 t64 t65 t66 t67 t68 t69 t70 t71 t72 t73 t74 t75 t76 t77 t78 t79 t80 t81 t82 t83 t84 t85 t86 t87 : Value} {W0 : World} {vb nl il nc ic : Nat} {na ia : Option Addr} {LN LI : List Value} {w : World} {f : Nat → Option Nat} {u41 u44 u46 uI : Value} {g4 g11 : Nat} {fl : Array Bool} {A : Act} (hfl : fl = #[true, true, true, true, true, true, false, true, true, false, true, true, false, false, false, false]) (hA : A = { tmps := (t0 :: t1 :: t2 :: .pointer (some ⟨vb, 0, none⟩) :: t4 :: t5 :: t6 :: t7 :: t8 :: t9 :: t10 :: t11 :: t12 :: t13 :: t14 :: t15 :: t16 :: t17 :: t18 :: t19 :: t20 :: t21 :: t22 :: t23 :: t24 :: t25 :: t26 :: t27 :: t28 :: t29 :: t30 :: t31 :: t32 :: t33 :: t34 :: t35 :: t36 :: t37 :: t38 :: t39 :: t40 :: u41 :: .pointer (some ⟨vb, 5, none⟩) :: .slice na nl nc :: u44 :: .slice (some ⟨g4, 0, none⟩) 1 1 :: u46 :: t47 :: .pointer (some ⟨vb, 4, none⟩) :: .slice ia il ic :: t50 :: .agg #[.int .i64 0, .int .i64 0, .int .i64 0, .string ⟨#[]⟩, .slice none 0 0, .slice none 0 0] :: .slice (some ⟨g11, 0, none⟩) 1 1 :: t53 :: t54 :: t55 :: t56 :: t57 :: t58 :: t59 :: t60 :: t61 :: t62 :: t63 :: t64 :: t65 :: t66 :: t67 :: t68 :: t69 :: t70 :: t71 :: t72 :: t73 :: t74 :: t75 :: t76 :: t77 :: t78 :: t79 :: t80 :: t81 :: t82 :: t83 :: t84 :: t85 :: t86 :: t87 :: []).toArray, defers := [] })
    (hS : SrcT W0 na ia nl il LN LI) (hp : ∀ p d v a w, Q (.panic p) (Act.put a d v) w → Q (.panic p) a w) (hF : FinT Q W0 vb nl il nc ic na ia LN LI t0 t1 t2 t4 t5 t6 t7 t9 t10 t11 t12 t13 t14 t15 t16 t17 t18 t19 t20 t21 t22 t23 t24 t25 t26 t27 t28 t29 t30 t31 t32 t33 t34 t35 t36 t37 t38 t39 t40 t55 t56 t57 t58 t59 t60 t61 t62 t63 t64 t65 t66 t67 t68 t69 t70 t71 t72 t73 t74 t75 t76 t77 t78 t79 t80 t81 t82 t83 t84 t85 t86 t87) (hI : InvT W0 w f ⟨#[122, 122]⟩ u46 (nl + 1) (LN ++ [.string ⟨#[122, 122]⟩]) uI 0 [] true true false true false) (h11 : f 3 = some g11) :
    wpAnyH Try.prog .any tnOps Q (fun w' => Below W0.heap.size W0 w') 6 fl A w := by
  subst hfl hA
  have hB0 := hI.1
  refine wpAnyH_ready (rs := [6, 14]) (by kernel_rfl) (by simp) ?_
  refine AllReadyH.cons rfl (fun K hK => ?_) (AllReadyH.cons rfl (fun K hK => ?_) AllReadyH.nil)
  · skip
    have hI2 := hI.alloc6
    go_simp
    refine hK.out _ _ hI2.1 (fun _ => ?_)
    exact tn11110_2 rfl rfl hS hp hF hI2 ((updO_ne _ _ (by omega)).trans h11)
  · skip
    have hI2 := hI.alloc14
    go_simp
    refine hK.out _ _ hI2.1 (fun _ => ?_)
    exact tn11011_2 rfl rfl hS hp hF hI2 ((updO_ne _ _ (by omega)).trans h11) (updO_at _ _ _)
set_option maxRecDepth 100000 in
set_option maxHeartbeats 2000000 in
theorem tn11001_2 {Q : Exit → Act → World → Prop} {t0 t1 t2 t4 t5 t6 t7 t9 t10 t11 t12 t13 t14 t15 t16 t17 t18 t19 t20 t21 t22 t23 t24 t25 t26 t27 t28 t29 t30 t31 t32 t33 t34 t35 t36 t37 t38 t39 t40 t47 t50 t52 t53 t54 t55 t56 t57 t58 t59 t60 t61 t62 t63 t64 t65 t66 t67 t68 t69 t70 t71 t72 t73 t74 t75 t76 t77 t78 t79 t80 t81 t82 t83 t84 t85 t86 t87 : Value} {W0 : World} {vb nl il nc ic : Nat} {na ia : Option Addr} {LN LI : List Value} {w : World} {f : Nat → Option Nat} {u41 u44 u46 uI : Value} {g4 g14 : Nat} {fl : Array Bool} {A : Act} (hfl : fl = #[true, true, true, true, true, true, false, true, true, false, true, false, false, false, true, false]) (hA : A = { tmps := (t0 :: t1 :: t2 :: .pointer (some ⟨vb, 0, none⟩) :: t4 :: t5 :: t6 :: t7 :: .pointer (some ⟨g14, 0, none⟩) :: t9 :: t10 :: t11 :: t12 :: t13 :: t14 :: t15 :: t16 :: t17 :: t18 :: t19 :: t20 :: t21 :: t22 :: t23 :: t24 :: t25 :: t26 :: t27 :: t28 :: t29 :: t30 :: t31 :: t32 :: t33 :: t34 :: t35 :: t36 :: t37 :: t38 :: t39 :: t40 :: u41 :: .pointer (some ⟨vb, 5, none⟩) :: .slice na nl nc :: u44 :: .slice (some ⟨g4, 0, none⟩) 1 1 :: u46 :: t47 :: .pointer (some ⟨vb, 4, none⟩) :: .slice ia il ic :: t50 :: .agg #[.int .i64 0, .int .i64 0, .int .i64 0, .string ⟨#[]⟩, .slice none 0 0, .slice none 0 0] :: t52 :: t53 :: t54 :: t55 :: t56 :: t57 :: t58 :: t59 :: t60 :: t61 :: t62 :: t63 :: t64 :: t65 :: t66 :: t67 :: t68 :: t69 :: t70 :: t71 :: t72 :: t73 :: t74 :: t75 :: t76 :: t77 :: t78 :: t79 :: t80 :: t81 :: t82 :: t83 :: t84 :: t85 :: t86 :: t87 :: []).toArray, defers := [] })
    (hS : SrcT W0 na ia nl il LN LI) (hp : ∀ p d v a w, Q (.panic p) (Act.put a d v) w → Q (.panic p) a w) (hF : FinT Q W0 vb nl il nc ic na ia LN LI t0 t1 t2 t4 t5 t6 t7 t9 t10 t11 t12 t13 t14 t15 t16 t17 t18 t19 t20 t21 t22 t23 t24 t25 t26 t27 t28 t29 t30 t31 t32 t33 t34 t35 t36 t37 t38 t39 t40 t55 t56 t57 t58 t59 t60 t61 t62 t63 t64 t65 t66 t67 t68 t69 t70 t71 t72 t73 t74 t75 t76 t77 t78 t79 t80 t81 t82 t83 t84 t85 t86 t87) (hI : InvT W0 w f ⟨#[122, 122]⟩ u46 (nl + 1) (LN ++ [.string ⟨#[122, 122]⟩]) uI 0 [] true true false false true) (h14 : f 4 = some g14) :
    wpAnyH Try.prog .any tnOps Q (fun w' => Below W0.heap.size W0 w') 6 fl A w := by
  subst hfl hA
  have hB0 := hI.1
  refine wpAnyH_ready (rs := [6, 11]) (by kernel_rfl) (by simp) ?_
  refine AllReadyH.cons rfl (fun K hK => ?_) (AllReadyH.cons rfl (fun K hK => ?_) AllReadyH.nil)
  · skip
    have hI2 := hI.alloc6
    go_simp
    refine hK.out _ _ hI2.1 (fun _ => ?_)
    exact tn11101_2 rfl rfl hS hp hF hI2 ((updO_ne _ _ (by omega)).trans h14)
  · skip
    have hI2 := hI.alloc11
    go_simp
    refine hK.out _ _ hI2.1 (fun _ => ?_)
    exact tn11011_2 rfl rfl hS hp hF hI2 (updO_at _ _ _) ((updO_ne _ _ (by omega)).trans h14)
set_option maxRecDepth 100000 in
set_option maxHeartbeats 2000000 in
theorem tn11000_2 {Q : Exit → Act → World → Prop} {t0 t1 t2 t4 t5 t6 t7 t8 t9 t10 t11 t12 t13 t14 t15 t16 t17 t18 t19 t20 t21 t22 t23 t24 t25 t26 t27 t28 t29 t30 t31 t32 t33 t34 t35 t36 t37 t38 t39 t40 t47 t50 t52 t53 t54 t55 t56 t57 t58 t59 t60 t61 t62 t63 t64 t65 t66 t67 t68 t69 t70 t71 t72 t73 t74 t75 t76 t77 t78 t79 t80 t81 t82 t83 t84 t85 t86 t87 : Value} {W0 : World} {vb nl il nc ic : Nat} {na ia : Option Addr} {LN LI : List Value} {w : World} {f : Nat → Option Nat} {u41 u44 u46 uI : Value} {g4 : Nat} {fl : Array Bool} {A : Act} (hfl : fl = #[true, true, true, true, true, true, false, true, true, false, true, false, false, false, false, false]) (hA : A = { tmps := (t0 :: t1 :: t2 :: .pointer (some ⟨vb, 0, none⟩) :: t4 :: t5 :: t6 :: t7 :: t8 :: t9 :: t10 :: t11 :: t12 :: t13 :: t14 :: t15 :: t16 :: t17 :: t18 :: t19 :: t20 :: t21 :: t22 :: t23 :: t24 :: t25 :: t26 :: t27 :: t28 :: t29 :: t30 :: t31 :: t32 :: t33 :: t34 :: t35 :: t36 :: t37 :: t38 :: t39 :: t40 :: u41 :: .pointer (some ⟨vb, 5, none⟩) :: .slice na nl nc :: u44 :: .slice (some ⟨g4, 0, none⟩) 1 1 :: u46 :: t47 :: .pointer (some ⟨vb, 4, none⟩) :: .slice ia il ic :: t50 :: .agg #[.int .i64 0, .int .i64 0, .int .i64 0, .string ⟨#[]⟩, .slice none 0 0, .slice none 0 0] :: t52 :: t53 :: t54 :: t55 :: t56 :: t57 :: t58 :: t59 :: t60 :: t61 :: t62 :: t63 :: t64 :: t65 :: t66 :: t67 :: t68 :: t69 :: t70 :: t71 :: t72 :: t73 :: t74 :: t75 :: t76 :: t77 :: t78 :: t79 :: t80 :: t81 :: t82 :: t83 :: t84 :: t85 :: t86 :: t87 :: []).toArray, defers := [] })
    (hS : SrcT W0 na ia nl il LN LI) (hp : ∀ p d v a w, Q (.panic p) (Act.put a d v) w → Q (.panic p) a w) (hF : FinT Q W0 vb nl il nc ic na ia LN LI t0 t1 t2 t4 t5 t6 t7 t9 t10 t11 t12 t13 t14 t15 t16 t17 t18 t19 t20 t21 t22 t23 t24 t25 t26 t27 t28 t29 t30 t31 t32 t33 t34 t35 t36 t37 t38 t39 t40 t55 t56 t57 t58 t59 t60 t61 t62 t63 t64 t65 t66 t67 t68 t69 t70 t71 t72 t73 t74 t75 t76 t77 t78 t79 t80 t81 t82 t83 t84 t85 t86 t87) (hI : InvT W0 w f ⟨#[122, 122]⟩ u46 (nl + 1) (LN ++ [.string ⟨#[122, 122]⟩]) uI 0 [] true true false false false) :
    wpAnyH Try.prog .any tnOps Q (fun w' => Below W0.heap.size W0 w') 7 fl A w := by
  subst hfl hA
  have hB0 := hI.1
  refine wpAnyH_ready (rs := [6, 11, 14]) (by kernel_rfl) (by simp) ?_
  refine AllReadyH.cons rfl (fun K hK => ?_) (AllReadyH.cons rfl (fun K hK => ?_) (AllReadyH.cons rfl (fun K hK => ?_) AllReadyH.nil))
  · skip
    have hI2 := hI.alloc6
    go_simp
    refine hK.out _ _ hI2.1 (fun _ => ?_)
    exact tn11100_2 rfl rfl hS hp hF hI2
  · skip
    have hI2 := hI.alloc11
    go_simp
    refine hK.out _ _ hI2.1 (fun _ => ?_)
    exact tn11010_2 rfl rfl hS hp hF hI2 (updO_at _ _ _)
  · skip
    have hI2 := hI.alloc14
    go_simp
    refine hK.out _ _ hI2.1 (fun _ => ?_)
    exact tn11001_2 rfl rfl hS hp hF hI2 (updO_at _ _ _)
set_option maxRecDepth 100000 in
set_option maxHeartbeats 2000000 in
theorem tn11111_1 {Q : Exit → Act → World → Prop} {t0 t1 t2 t4 t5 t6 t7 t9 t10 t11 t12 t13 t14 t15 t16 t17 t18 t19 t20 t21 t22 t23 t24 t25 t26 t27 t28 t29 t30 t31 t32 t33 t34 t35 t36 t37 t38 t39 t40 t46 t50 t53 t54 t55 t56 t57 t58 t59 t60 t61 t62 t63 t64 t65 t66 t67 t68 t69 t70 t71 t72 t73 t74 t75 t76 t77 t78 t79 t80 t81 t82 t83 t84 t85 t86 t87 : Value} {W0 : World} {vb nl il nc ic : Nat} {na ia : Option Addr} {LN LI : List Value} {w : World} {f : Nat → Option Nat} {u41 u44 u47 : Value} {g4 g11 g14 : Nat} {fl : Array Bool} {A : Act} (hfl : fl = #[true, true, true, true, true, false, true, true, true, false, true, true, false, false, true, false]) (hA : A = { tmps := (t0 :: t1 :: t2 :: .pointer (some ⟨vb, 0, none⟩) :: t4 :: t5 :: t6 :: t7 :: .pointer (some ⟨g14, 0, none⟩) :: t9 :: t10 :: t11 :: t12 :: t13 :: t14 :: t15 :: t16 :: t17 :: t18 :: t19 :: t20 :: t21 :: t22 :: t23 :: t24 :: t25 :: t26 :: t27 :: t28 :: t29 :: t30 :: t31 :: t32 :: t33 :: t34 :: t35 :: t36 :: t37 :: t38 :: t39 :: t40 :: u41 :: .pointer (some ⟨vb, 5, none⟩) :: .slice na nl nc :: u44 :: .slice (some ⟨g4, 0, none⟩) 1 1 :: t46 :: u47 :: .pointer (some ⟨vb, 4, none⟩) :: .slice ia il ic :: t50 :: .agg #[.int .i64 0, .int .i64 0, .int .i64 0, .string ⟨#[]⟩, .slice none 0 0, .slice none 0 0] :: .slice (some ⟨g11, 0, none⟩) 1 1 :: t53 :: t54 :: t55 :: t56 :: t57 :: t58 :: t59 :: t60 :: t61 :: t62 :: t63 :: t64 :: t65 :: t66 :: t67 :: t68 :: t69 :: t70 :: t71 :: t72 :: t73 :: t74 :: t75 :: t76 :: t77 :: t78 :: t79 :: t80 :: t81 :: t82 :: t83 :: t84 :: t85 :: t86 :: t87 :: []).toArray, defers := [] })
    (hS : SrcT W0 na ia nl il LN LI) (hp : ∀ p d v a w, Q (.panic p) (Act.put a d v) w → Q (.panic p) a w) (hF : FinT Q W0 vb nl il nc ic na ia LN LI t0 t1 t2 t4 t5 t6 t7 t9 t10 t11 t12 t13 t14 t15 t16 t17 t18 t19 t20 t21 t22 t23 t24 t25 t26 t27 t28 t29 t30 t31 t32 t33 t34 t35 t36 t37 t38 t39 t40 t55 t56 t57 t58 t59 t60 t61 t62 t63 t64 t65 t66 t67 t68 t69 t70 t71 t72 t73 t74 t75 t76 t77 t78 t79 t80 t81 t82 t83 t84 t85 t86 t87) (hI : InvT W0 w f ⟨#[122, 122]⟩ u44 nl LN u47 0 [] true true true true true) (h4 : f 1 = some g4) (h11 : f 3 = some g11) (h14 : f 4 = some g14) :
    wpAnyH Try.prog .any tnOps Q (fun w' => Below W0.heap.size W0 w') 5 fl A w := by
  subst hfl hA
  have hB0 := hI.1
  refine wpAnyH_ready (rs := [5]) (by kernel_rfl) (by simp) ?_
  refine AllReadyH.cons rfl (fun K hK => ?_) AllReadyH.nil
  obtain ⟨i0, hi, hz0, hz1, hz2⟩ := info_parts textInfo
  obtain ⟨⟨HL1, HL2⟩, ⟨HO1, HO2⟩, ⟨hl1, hl2⟩, hSS⟩ := id hS
  have HS : Src w (some ⟨g4, 0, none⟩) 1 [Value.string ⟨#[122, 122]⟩] := by
    obtain ⟨g, hg, ho⟩ := hI.2.2.2.1 rfl
    rw [h4] at hg
    cases hg
    exact ho.src 1
  refine wp_append_lie w _ _ 26 rfl W0.heap.size 9 i0 _ 1 16 Try.underlying26 hi hz0 hz1 hz2 rfl (by decide) u44 nl LN rfl (hI.2.2.1 rfl).2 (some ⟨g4, 0, none⟩) 1 1 [Value.string ⟨#[122, 122]⟩] rfl rfl HS (fun u hu => by simp at hu; subst hu; rfl) (by unfold maxLen; omega) (by omega) hB0.size ?_
  intro v' w' hown hgr hbl
  have hI2 := hI.appN hown hgr hbl
  refine hK.out _ _ hI2.1 (fun _ => ?_)
  exact tn11111_2 rfl rfl hS hp hF hI2 ((updO_ne _ _ (by omega)).trans h11) ((updO_ne _ _ (by omega)).trans h14)
set_option maxRecDepth 100000 in
set_option maxHeartbeats 2000000 in
theorem tn11110_1 {Q : Exit → Act → World → Prop} {t0 t1 t2 t4 t5 t6 t7 t8 t9 t10 t11 t12 t13 t14 t15 t16 t17 t18 t19 t20 t21 t22 t23 t24 t25 t26 t27 t28 t29 t30 t31 t32 t33 t34 t35 t36 t37 t38 t39 t40 t46 t50 t53 t54 t55 t56 t57 t58 t59 t60 t61 t62 t63 t64 t65 t66 t67 t68 t69 t70 t71 t72 t73 t74 t75 t76 t77 t78 t79 t80 t81 t82 t83 t84 t85 t86 t87 : Value} {W0 : World} {vb nl il nc ic : Nat} {na ia : Option Addr} {LN LI : List Value} {w : World} {f : Nat → Option Nat} {u41 u44 u47 : Value} {g4 g11 : Nat} {fl : Array Bool} {A : Act} (hfl : fl = #[true, true, true, true, true, false, true, true, true, false, true, true, false, false, false, false]) (hA : A = { tmps := (t0 :: t1 :: t2 :: .pointer (some ⟨vb, 0, none⟩) :: t4 :: t5 :: t6 :: t7 :: t8 :: t9 :: t10 :: t11 :: t12 :: t13 :: t14 :: t15 :: t16 :: t17 :: t18 :: t19 :: t20 :: t21 :: t22 :: t23 :: t24 :: t25 :: t26 :: t27 :: t28 :: t29 :: t30 :: t31 :: t32 :: t33 :: t34 :: t35 :: t36 :: t37 :: t38 :: t39 :: t40 :: u41 :: .pointer (some ⟨vb, 5, none⟩) :: .slice na nl nc :: u44 :: .slice (some ⟨g4, 0, none⟩) 1 1 :: t46 :: u47 :: .pointer (some ⟨vb, 4, none⟩) :: .slice ia il ic :: t50 :: .agg #[.int .i64 0, .int .i64 0, .int .i64 0, .string ⟨#[]⟩, .slice none 0 0, .slice none 0 0] :: .slice (some ⟨g11, 0, none⟩) 1 1 :: t53 :: t54 :: t55 :: t56 :: t57 :: t58 :: t59 :: t60 :: t61 :: t62 :: t63 :: t64 :: t65 :: t66 :: t67 :: t68 :: t69 :: t70 :: t71 :: t72 :: t73 :: t74 :: t75 :: t76 :: t77 :: t78 :: t79 :: t80 :: t81 :: t82 :: t83 :: t84 :: t85 :: t86 :: t87 :: []).toArray, defers := [] })
    (hS : SrcT W0 na ia nl il LN LI) (hp : ∀ p d v a w, Q (.panic p) (Act.put a d v) w → Q (.panic p) a w) (hF : FinT Q W0 vb nl il nc ic na ia LN LI t0 t1 t2 t4 t5 t6 t7 t9 t10 t11 t12 t13 t14 t15 t16 t17 t18 t19 t20 t21 t22 t23 t24 t25 t26 t27 t28 t29 t30 t31 t32 t33 t34 t35 t36 t37 t38 t39 t40 t55 t56 t57 t58 t59 t60 t61 t62 t63 t64 t65 t66 t67 t68 t69 t70 t71 t72 t73 t74 t75 t76 t77 t78 t79 t80 t81 t82 t83 t84 t85 t86 t87) (hI : InvT W0 w f ⟨#[122, 122]⟩ u44 nl LN u47 0 [] true true true true false) (h4 : f 1 = some g4) (h11 : f 3 = some g11) :
    wpAnyH Try.prog .any tnOps Q (fun w' => Below W0.heap.size W0 w') 6 fl A w := by
  subst hfl hA
  have hB0 := hI.1
  refine wpAnyH_ready (rs := [5, 14]) (by kernel_rfl) (by simp) ?_
  refine AllReadyH.cons rfl (fun K hK => ?_) (AllReadyH.cons rfl (fun K hK => ?_) AllReadyH.nil)
  · skip
    obtain ⟨i0, hi, hz0, hz1, hz2⟩ := info_parts textInfo
    obtain ⟨⟨HL1, HL2⟩, ⟨HO1, HO2⟩, ⟨hl1, hl2⟩, hSS⟩ := id hS
    have HS : Src w (some ⟨g4, 0, none⟩) 1 [Value.string ⟨#[122, 122]⟩] := by
      obtain ⟨g, hg, ho⟩ := hI.2.2.2.1 rfl
      rw [h4] at hg
      cases hg
      exact ho.src 1
    refine wp_append_lie w _ _ 26 rfl W0.heap.size 9 i0 _ 1 16 Try.underlying26 hi hz0 hz1 hz2 rfl (by decide) u44 nl LN rfl (hI.2.2.1 rfl).2 (some ⟨g4, 0, none⟩) 1 1 [Value.string ⟨#[122, 122]⟩] rfl rfl HS (fun u hu => by simp at hu; subst hu; rfl) (by unfold maxLen; omega) (by omega) hB0.size ?_
    intro v' w' hown hgr hbl
    have hI2 := hI.appN hown hgr hbl
    refine hK.out _ _ hI2.1 (fun _ => ?_)
    exact tn11110_2 rfl rfl hS hp hF hI2 ((updO_ne _ _ (by omega)).trans h11)
  · skip
    have hI2 := hI.alloc14
    go_simp
    refine hK.out _ _ hI2.1 (fun _ => ?_)
    exact tn11111_1 rfl rfl hS hp hF hI2 ((updO_ne _ _ (by omega)).trans h4) ((updO_ne _ _ (by omega)).trans h11) (updO_at _ _ _)
set_option maxRecDepth 100000 in
set_option maxHeartbeats 2000000 in
theorem tn11101_1 {Q : Exit → Act → World → Prop} {t0 t1 t2 t4 t5 t6 t7 t9 t10 t11 t12 t13 t14 t15 t16 t17 t18 t19 t20 t21 t22 t23 t24 t25 t26 t27 t28 t29 t30 t31 t32 t33 t34 t35 t36 t37 t38 t39 t40 t46 t50 t52 t53 t54 t55 t56 t57 t58 t59 t60 t61 t62 t63 t64 t65 t66 t67 t68 t69 t70 t71 t72 t73 t74 t75 t76 t77 t78 t79 t80 t81 t82 t83 t84 t85 t86 t87 : Value} {W0 : World} {vb nl il nc ic : Nat} {na ia : Option Addr} {LN LI : List Value} {w : World} {f : Nat → Option Nat} {u41 u44 u47 : Value} {g4 g14 : Nat} {fl : Array Bool} {A : Act} (hfl : fl = #[true, true, true, true, true, false, true, true, true, false, true, false, false, false, true, false]) (hA : A = { tmps := (t0 :: t1 :: t2 :: .pointer (some ⟨vb, 0, none⟩) :: t4 :: t5 :: t6 :: t7 :: .pointer (some ⟨g14, 0, none⟩) :: t9 :: t10 :: t11 :: t12 :: t13 :: t14 :: t15 :: t16 :: t17 :: t18 :: t19 :: t20 :: t21 :: t22 :: t23 :: t24 :: t25 :: t26 :: t27 :: t28 :: t29 :: t30 :: t31 :: t32 :: t33 :: t34 :: t35 :: t36 :: t37 :: t38 :: t39 :: t40 :: u41 :: .pointer (some ⟨vb, 5, none⟩) :: .slice na nl nc :: u44 :: .slice (some ⟨g4, 0, none⟩) 1 1 :: t46 :: u47 :: .pointer (some ⟨vb, 4, none⟩) :: .slice ia il ic :: t50 :: .agg #[.int .i64 0, .int .i64 0, .int .i64 0, .string ⟨#[]⟩, .slice none 0 0, .slice none 0 0] :: t52 :: t53 :: t54 :: t55 :: t56 :: t57 :: t58 :: t59 :: t60 :: t61 :: t62 :: t63 :: t64 :: t65 :: t66 :: t67 :: t68 :: t69 :: t70 :: t71 :: t72 :: t73 :: t74 :: t75 :: t76 :: t77 :: t78 :: t79 :: t80 :: t81 :: t82 :: t83 :: t84 :: t85 :: t86 :: t87 :: []).toArray, defers := [] })
    (hS : SrcT W0 na ia nl il LN LI) (hp : ∀ p d v a w, Q (.panic p) (Act.put a d v) w → Q (.panic p) a w) (hF : FinT Q W0 vb nl il nc ic na ia LN LI t0 t1 t2 t4 t5 t6 t7 t9 t10 t11 t12 t13 t14 t15 t16 t17 t18 t19 t20 t21 t22 t23 t24 t25 t26 t27 t28 t29 t30 t31 t32 t33 t34 t35 t36 t37 t38 t39 t40 t55 t56 t57 t58 t59 t60 t61 t62 t63 t64 t65 t66 t67 t68 t69 t70 t71 t72 t73 t74 t75 t76 t77 t78 t79 t80 t81 t82 t83 t84 t85 t86 t87) (hI : InvT W0 w f ⟨#[122, 122]⟩ u44 nl LN u47 0 [] true true true false true) (h4 : f 1 = some g4) (h14 : f 4 = some g14) :
    wpAnyH Try.prog .any tnOps Q (fun w' => Below W0.heap.size W0 w') 6 fl A w := by
  subst hfl hA
  have hB0 := hI.1
  refine wpAnyH_ready (rs := [5, 11]) (by kernel_rfl) (by simp) ?_
  refine AllReadyH.cons rfl (fun K hK => ?_) (AllReadyH.cons rfl (fun K hK => ?_) AllReadyH.nil)
  · skip
    obtain ⟨i0, hi, hz0, hz1, hz2⟩ := info_parts textInfo
    obtain ⟨⟨HL1, HL2⟩, ⟨HO1, HO2⟩, ⟨hl1, hl2⟩, hSS⟩ := id hS
    have HS : Src w (some ⟨g4, 0, none⟩) 1 [Value.string ⟨#[122, 122]⟩] := by
      obtain ⟨g, hg, ho⟩ := hI.2.2.2.1 rfl
      rw [h4] at hg
      cases hg
      exact ho.src 1
    refine wp_append_lie w _ _ 26 rfl W0.heap.size 9 i0 _ 1 16 Try.underlying26 hi hz0 hz1 hz2 rfl (by decide) u44 nl LN rfl (hI.2.2.1 rfl).2 (some ⟨g4, 0, none⟩) 1 1 [Value.string ⟨#[122, 122]⟩] rfl rfl HS (fun u hu => by simp at hu; subst hu; rfl) (by unfold maxLen; omega) (by omega) hB0.size ?_
    intro v' w' hown hgr hbl
    have hI2 := hI.appN hown hgr hbl
    refine hK.out _ _ hI2.1 (fun _ => ?_)
    exact tn11101_2 rfl rfl hS hp hF hI2 ((updO_ne _ _ (by omega)).trans h14)
  · skip
    have hI2 := hI.alloc11
    go_simp
    refine hK.out _ _ hI2.1 (fun _ => ?_)
    exact tn11111_1 rfl rfl hS hp hF hI2 ((updO_ne _ _ (by omega)).trans h4) (updO_at _ _ _) ((updO_ne _ _ (by omega)).trans h14)
set_option maxRecDepth 100000 in
set_option maxHeartbeats 2000000 in
theorem tn11011_1 {Q : Exit → Act → World → Prop} {t0 t1 t2 t4 t5 t6 t7 t9 t10 t11 t12 t13 t14 t15 t16 t17 t18 t19 t20 t21 t22 t23 t24 t25 t26 t27 t28 t29 t30 t31 t32 t33 t34 t35 t36 t37 t38 t39 t40 t46 t47 t50 t53 t54 t55 t56 t57 t58 t59 t60 t61 t62 t63 t64 t65 t66 t67 t68 t69 t70 t71 t72 t73 t74 t75 t76 t77 t78 t79 t80 t81 t82 t83 t84 t85 t86 t87 : Value} {W0 : World} {vb nl il nc ic : Nat} {na ia : Option Addr} {LN LI : List Value} {w : World} {f : Nat → Option Nat} {u41 u44 uI : Value} {g4 g11 g14 : Nat} {fl : Array Bool} {A : Act} (hfl : fl = #[true, true, true, true, true, false, false, true, true, false, true, true, false, false, true, false]) (hA : A = { tmps := (t0 :: t1 :: t2 :: .pointer (some ⟨vb, 0, none⟩) :: t4 :: t5 :: t6 :: t7 :: .pointer (some ⟨g14, 0, none⟩) :: t9 :: t10 :: t11 :: t12 :: t13 :: t14 :: t15 :: t16 :: t17 :: t18 :: t19 :: t20 :: t21 :: t22 :: t23 :: t24 :: t25 :: t26 :: t27 :: t28 :: t29 :: t30 :: t31 :: t32 :: t33 :: t34 :: t35 :: t36 :: t37 :: t38 :: t39 :: t40 :: u41 :: .pointer (some ⟨vb, 5, none⟩) :: .slice na nl nc :: u44 :: .slice (some ⟨g4, 0, none⟩) 1 1 :: t46 :: t47 :: .pointer (some ⟨vb, 4, none⟩) :: .slice ia il ic :: t50 :: .agg #[.int .i64 0, .int .i64 0, .int .i64 0, .string ⟨#[]⟩, .slice none 0 0, .slice none 0 0] :: .slice (some ⟨g11, 0, none⟩) 1 1 :: t53 :: t54 :: t55 :: t56 :: t57 :: t58 :: t59 :: t60 :: t61 :: t62 :: t63 :: t64 :: t65 :: t66 :: t67 :: t68 :: t69 :: t70 :: t71 :: t72 :: t73 :: t74 :: t75 :: t76 :: t77 :: t78 :: t79 :: t80 :: t81 :: t82 :: t83 :: t84 :: t85 :: t86 :: t87 :: []).toArray, defers := [] })
    (hS : SrcT W0 na ia nl il LN LI) (hp : ∀ p d v a w, Q (.panic p) (Act.put a d v) w → Q (.panic p) a w) (hF : FinT Q W0 vb nl il nc ic na ia LN LI t0 t1 t2 t4 t5 t6 t7 t9 t10 t11 t12 t13 t14 t15 t16 t17 t18 t19 t20 t21 t22 t23 t24 t25 t26 t27 t28 t29 t30 t31 t32 t33 t34 t35 t36 t37 t38 t39 t40 t55 t56 t57 t58 t59 t60 t61 t62 t63 t64 t65 t66 t67 t68 t69 t70 t71 t72 t73 t74 t75 t76 t77 t78 t79 t80 t81 t82 t83 t84 t85 t86 t87) (hI : InvT W0 w f ⟨#[122, 122]⟩ u44 nl LN uI 0 [] true true false true true) (h4 : f 1 = some g4) (h11 : f 3 = some g11) (h14 : f 4 = some g14) :
    wpAnyH Try.prog .any tnOps Q (fun w' => Below W0.heap.size W0 w') 6 fl A w := by
  subst hfl hA
  have hB0 := hI.1
  refine wpAnyH_ready (rs := [5, 6]) (by kernel_rfl) (by simp) ?_
  refine AllReadyH.cons rfl (fun K hK => ?_) (AllReadyH.cons rfl (fun K hK => ?_) AllReadyH.nil)
  · skip
    obtain ⟨i0, hi, hz0, hz1, hz2⟩ := info_parts textInfo
    obtain ⟨⟨HL1, HL2⟩, ⟨HO1, HO2⟩, ⟨hl1, hl2⟩, hSS⟩ := id hS
    have HS : Src w (some ⟨g4, 0, none⟩) 1 [Value.string ⟨#[122, 122]⟩] := by
      obtain ⟨g, hg, ho⟩ := hI.2.2.2.1 rfl
      rw [h4] at hg
      cases hg
      exact ho.src 1
    refine wp_append_lie w _ _ 26 rfl W0.heap.size 9 i0 _ 1 16 Try.underlying26 hi hz0 hz1 hz2 rfl (by decide) u44 nl LN rfl (hI.2.2.1 rfl).2 (some ⟨g4, 0, none⟩) 1 1 [Value.string ⟨#[122, 122]⟩] rfl rfl HS (fun u hu => by simp at hu; subst hu; rfl) (by unfold maxLen; omega) (by omega) hB0.size ?_
    intro v' w' hown hgr hbl
    have hI2 := hI.appN hown hgr hbl
    refine hK.out _ _ hI2.1 (fun _ => ?_)
    exact tn11011_2 rfl rfl hS hp hF hI2 ((updO_ne _ _ (by omega)).trans h11) ((updO_ne _ _ (by omega)).trans h14)
  · skip
    have hI2 := hI.alloc6
    go_simp
    refine hK.out _ _ hI2.1 (fun _ => ?_)
    exact tn11111_1 rfl rfl hS hp hF hI2 ((updO_ne _ _ (by omega)).trans h4) ((updO_ne _ _ (by omega)).trans h11) ((updO_ne _ _ (by omega)).trans h14)
set_option maxRecDepth 100000 in
set_option maxHeartbeats 2000000 in
theorem tn10111_1 {Q : Exit → Act → World → Prop} {t0 t1 t2 t4 t5 t6 t7 t9 t10 t11 t12 t13 t14 t15 t16 t17 t18 t19 t20 t21 t22 t23 t24 t25 t26 t27 t28 t29 t30 t31 t32 t33 t34 t35 t36 t37 t38 t39 t40 t45 t46 t50 t53 t54 t55 t56 t57 t58 t59 t60 t61 t62 t63 t64 t65 t66 t67 t68 t69 t70 t71 t72 t73 t74 t75 t76 t77 t78 t79 t80 t81 t82 t83 t84 t85 t86 t87 : Value} {W0 : World} {vb nl il nc ic : Nat} {na ia : Option Addr} {LN LI : List Value} {w : World} {f : Nat → Option Nat} {u41 u44 u47 : Value} {g11 g14 : Nat} {fl : Array Bool} {A : Act} (hfl : fl = #[true, true, true, true, false, false, true, true, true, false, true, true, false, false, true, false]) (hA : A = { tmps := (t0 :: t1 :: t2 :: .pointer (some ⟨vb, 0, none⟩) :: t4 :: t5 :: t6 :: t7 :: .pointer (some ⟨g14, 0, none⟩) :: t9 :: t10 :: t11 :: t12 :: t13 :: t14 :: t15 :: t16 :: t17 :: t18 :: t19 :: t20 :: t21 :: t22 :: t23 :: t24 :: t25 :: t26 :: t27 :: t28 :: t29 :: t30 :: t31 :: t32 :: t33 :: t34 :: t35 :: t36 :: t37 :: t38 :: t39 :: t40 :: u41 :: .pointer (some ⟨vb, 5, none⟩) :: .slice na nl nc :: u44 :: t45 :: t46 :: u47 :: .pointer (some ⟨vb, 4, none⟩) :: .slice ia il ic :: t50 :: .agg #[.int .i64 0, .int .i64 0, .int .i64 0, .string ⟨#[]⟩, .slice none 0 0, .slice none 0 0] :: .slice (some ⟨g11, 0, none⟩) 1 1 :: t53 :: t54 :: t55 :: t56 :: t57 :: t58 :: t59 :: t60 :: t61 :: t62 :: t63 :: t64 :: t65 :: t66 :: t67 :: t68 :: t69 :: t70 :: t71 :: t72 :: t73 :: t74 :: t75 :: t76 :: t77 :: t78 :: t79 :: t80 :: t81 :: t82 :: t83 :: t84 :: t85 :: t86 :: t87 :: []).toArray, defers := [] })
    (hS : SrcT W0 na ia nl il LN LI) (hp : ∀ p d v a w, Q (.panic p) (Act.put a d v) w → Q (.panic p) a w) (hF : FinT Q W0 vb nl il nc ic na ia LN LI t0 t1 t2 t4 t5 t6 t7 t9 t10 t11 t12 t13 t14 t15 t16 t17 t18 t19 t20 t21 t22 t23 t24 t25 t26 t27 t28 t29 t30 t31 t32 t33 t34 t35 t36 t37 t38 t39 t40 t55 t56 t57 t58 t59 t60 t61 t62 t63 t64 t65 t66 t67 t68 t69 t70 t71 t72 t73 t74 t75 t76 t77 t78 t79 t80 t81 t82 t83 t84 t85 t86 t87) (hI : InvT W0 w f ⟨#[122, 122]⟩ u44 nl LN u47 0 [] true false true true true) (h11 : f 3 = some g11) (h14 : f 4 = some g14) :
    wpAnyH Try.prog .any tnOps Q (fun w' => Below W0.heap.size W0 w') 6 fl A w := by
  subst hfl hA
  have hB0 := hI.1
  refine wpAnyH_ready (rs := [4]) (by kernel_rfl) (by simp) ?_
  refine AllReadyH.cons rfl (fun K hK => ?_) AllReadyH.nil
  have hI2 := hI.alloc4
  go_simp
  refine hK.out _ _ hI2.1 (fun _ => ?_)
  exact tn11111_1 rfl rfl hS hp hF hI2 (updO_at _ _ _) ((updO_ne _ _ (by omega)).trans h11) ((updO_ne _ _ (by omega)).trans h14)
set_option maxRecDepth 100000 in
set_option maxHeartbeats 2000000 in
theorem tn11100_1 {Q : Exit → Act → World → Prop} {t0 t1 t2 t4 t5 t6 t7 t8 t9 t10 t11 t12 t13 t14 t15 t16 t17 t18 t19 t20 t21 t22 t23 t24 t25 t26 t27 t28 t29 t30 t31 t32 t33 t34 t35 t36 t37 t38 t39 t40 t46 t50 t52 t53 t54 t55 t56 t57 t58 t59 t60 t61 t62 t63 t64 t65 t66 t67 t68 t69 t70 t71 t72 t73 t74 t75 t76 t77 t78 t79 t80 t81 t82 t83 t84 t85 t86 t87 : Value} {W0 : World} {vb nl il nc ic : Nat} {na ia : Option Addr} {LN LI : List Value} {w : World} {f : Nat → Option Nat} {u41 u44 u47 : Value} {g4 : Nat} {fl : Array Bool} {A : Act} (hfl : fl = #[true, true, true, true, true, false, true, true, true, false, true, false, false, false, false, false]) (hA : A = { tmps := (t0 :: t1 :: t2 :: .pointer (some ⟨vb, 0, none⟩) :: t4 :: t5 :: t6 :: t7 :: t8 :: t9 :: t10 :: t11 :: t12 :: t13 :: t14 :: t15 :: t16 :: t17 :: t18 :: t19 :: t20 :: t21 :: t22 :: t23 :: t24 :: t25 :: t26 :: t27 :: t28 :: t29 :: t30 :: t31 :: t32 :: t33 :: t34 :: t35 :: t36 :: t37 :: t38 :: t39 :: t40 :: u41 :: .pointer (some ⟨vb, 5, none⟩) :: .slice na nl nc :: u44 :: .slice (some ⟨g4, 0, none⟩) 1 1 :: t46 :: u47 :: .pointer (some ⟨vb, 4, none⟩) :: .slice ia il ic :: t50 :: .agg #[.int .i64 0, .int .i64 0, .int .i64 0, .string ⟨#[]⟩, .slice none 0 0, .slice none 0 0] :: t52 :: t53 :: t54 :: t55 :: t56 :: t57 :: t58 :: t59 :: t60 :: t61 :: t62 :: t63 :: t64 :: t65 :: t66 :: t67 :: t68 :: t69 :: t70 :: t71 :: t72 :: t73 :: t74 :: t75 :: t76 :: t77 :: t78 :: t79 :: t80 :: t81 :: t82 :: t83 :: t84 :: t85 :: t86 :: t87 :: []).toArray, defers := [] })
    (hS : SrcT W0 na ia nl il LN LI) (hp : ∀ p d v a w, Q (.panic p) (Act.put a d v) w → Q (.panic p) a w) (hF : FinT Q W0 vb nl il nc ic na ia LN LI t0 t1 t2 t4 t5 t6 t7 t9 t10 t11 t12 t13 t14 t15 t16 t17 t18 t19 t20 t21 t22 t23 t24 t25 t26 t27 t28 t29 t30 t31 t32 t33 t34 t35 t36 t37 t38 t39 t40 t55 t56 t57 t58 t59 t60 t61 t62 t63 t64 t65 t66 t67 t68 t69 t70 t71 t72 t73 t74 t75 t76 t77 t78 t79 t80 t81 t82 t83 t84 t85 t86 t87) (hI : InvT W0 w f ⟨#[122, 122]⟩ u44 nl LN u47 0 [] true true true false false) (h4 : f 1 = some g4) :
    wpAnyH Try.prog .any tnOps Q (fun w' => Below W0.heap.size W0 w') 7 fl A w := by
  subst hfl hA
  have hB0 := hI.1
  refine wpAnyH_ready (rs := [5, 11, 14]) (by kernel_rfl) (by simp) ?_
  refine AllReadyH.cons rfl (fun K hK => ?_) (AllReadyH.cons rfl (fun K hK => ?_) (AllReadyH.cons rfl (fun K hK => ?_) AllReadyH.nil))
  · skip
    obtain ⟨i0, hi, hz0, hz1, hz2⟩ := info_parts textInfo
    obtain ⟨⟨HL1, HL2⟩, ⟨HO1, HO2⟩, ⟨hl1, hl2⟩, hSS⟩ := id hS
    have HS : Src w (some ⟨g4, 0, none⟩) 1 [Value.string ⟨#[122, 122]⟩] := by
      obtain ⟨g, hg, ho⟩ := hI.2.2.2.1 rfl
      rw [h4] at hg
      cases hg
      exact ho.src 1
    refine wp_append_lie w _ _ 26 rfl W0.heap.size 9 i0 _ 1 16 Try.underlying26 hi hz0 hz1 hz2 rfl (by decide) u44 nl LN rfl (hI.2.2.1 rfl).2 (some ⟨g4, 0, none⟩) 1 1 [Value.string ⟨#[122, 122]⟩] rfl rfl HS (fun u hu => by simp at hu; subst hu; rfl) (by unfold maxLen; omega) (by omega) hB0.size ?_
    intro v' w' hown hgr hbl
    have hI2 := hI.appN hown hgr hbl
    refine hK.out _ _ hI2.1 (fun _ => ?_)
    exact tn11100_2 rfl rfl hS hp hF hI2
  · skip
    have hI2 := hI.alloc11
    go_simp
    refine hK.out _ _ hI2.1 (fun _ => ?_)
    exact tn11110_1 rfl rfl hS hp hF hI2 ((updO_ne _ _ (by omega)).trans h4) (updO_at _ _ _)
  · skip
    have hI2 := hI.alloc14
    go_simp
    refine hK.out _ _ hI2.1 (fun _ => ?_)
    exact tn11101_1 rfl rfl hS hp hF hI2 ((updO_ne _ _ (by omega)).trans h4) (updO_at _ _ _)
set_option maxRecDepth 100000 in
set_option maxHeartbeats 2000000 in
theorem tn11010_1 {Q : Exit → Act → World → Prop} {t0 t1 t2 t4 t5 t6 t7 t8 t9 t10 t11 t12 t13 t14 t15 t16 t17 t18 t19 t20 t21 t22 t23 t24 t25 t26 t27 t28 t29 t30 t31 t32 t33 t34 t35 t36 t37 t38 t39 t40 t46 t47 t50 t53 t54 t55 t56 t57 t58 t59 t60 t61 t62 t63 t64 t65 t66 t67 t68 t69 t70 t71 t72 t73 t74 t75 t76 t77 t78 t79 t80 t81 t82 t83 t84 t85 t86 t87 : Value} {W0 : World} {vb nl il nc ic : Nat} {na ia : Option Addr} {LN LI : List Value} {w : World} {f : Nat → Option Nat} {u41 u44 uI : Value} {g4 g11 : Nat} {fl : Array Bool} {A : Act} (hfl : fl = #[true, true, true, true, true, false, false, true, true, false, true, true, false, false, false, false]) (hA : A = { tmps := (t0 :: t1 :: t2 :: .pointer (some ⟨vb, 0, none⟩) :: t4 :: t5 :: t6 :: t7 :: t8 :: t9 :: t10 :: t11 :: t12 :: t13 :: t14 :: t15 :: t16 :: t17 :: t18 :: t19 :: t20 :: t21 :: t22 :: t23 :: t24 :: t25 :: t26 :: t27 :: t28 :: t29 :: t30 :: t31 :: t32 :: t33 :: t34 :: t35 :: t36 :: t37 :: t38 :: t39 :: t40 :: u41 :: .pointer (some ⟨vb, 5, none⟩) :: .slice na nl nc :: u44 :: .slice (some ⟨g4, 0, none⟩) 1 1 :: t46 :: t47 :: .pointer (some ⟨vb, 4, none⟩) :: .slice ia il ic :: t50 :: .agg #[.int .i64 0, .int .i64 0, .int .i64 0, .string ⟨#[]⟩, .slice none 0 0, .slice none 0 0] :: .slice (some ⟨g11, 0, none⟩) 1 1 :: t53 :: t54 :: t55 :: t56 :: t57 :: t58 :: t59 :: t60 :: t61 :: t62 :: t63 :: t64 :: t65 :: t66 :: t67 :: t68 :: t69 :: t70 :: t71 :: t72 :: t73 :: t74 :: t75 :: t76 :: t77 :: t78 :: t79 :: t80 :: t81 :: t82 :: t83 :: t84 :: t85 :: t86 :: t87 :: []).toArray, defers := [] })
    (hS : SrcT W0 na ia nl il LN LI) (hp : ∀ p d v a w, Q (.panic p) (Act.put a d v) w → Q (.panic p) a w) (hF : FinT Q W0 vb nl il nc ic na ia LN LI t0 t1 t2 t4 t5 t6 t7 t9 t10 t11 t12 t13 t14 t15 t16 t17 t18 t19 t20 t21 t22 t23 t24 t25 t26 t27 t28 t29 t30 t31 t32 t33 t34 t35 t36 t37 t38 t39 t40 t55 t56 t57 t58 t59 t60 t61 t62 t63 t64 t65 t66 t67 t68 t69 t70 t71 t72 t73 t74 t75 t76 t77 t78 t79 t80 t81 t82 t83 t84 t85 t86 t87) (hI : InvT W0 w f ⟨#[122, 122]⟩ u44 nl LN uI 0 [] true true false true false) (h4 : f 1 = some g4) (h11 : f 3 = some g11) :
    wpAnyH Try.prog .any tnOps Q (fun w' => Below W0.heap.size W0 w') 7 fl A w := by
  subst hfl hA
  have hB0 := hI.1
  refine wpAnyH_ready (rs := [5, 6, 14]) (by kernel_rfl) (by simp) ?_
  refine AllReadyH.cons rfl (fun K hK => ?_) (AllReadyH.cons rfl (fun K hK => ?_) (AllReadyH.cons rfl (fun K hK => ?_) AllReadyH.nil))
  · skip
    obtain ⟨i0, hi, hz0, hz1, hz2⟩ := info_parts textInfo
    obtain ⟨⟨HL1, HL2⟩, ⟨HO1, HO2⟩, ⟨hl1, hl2⟩, hSS⟩ := id hS
    have HS : Src w (some ⟨g4, 0, none⟩) 1 [Value.string ⟨#[122, 122]⟩] := by
      obtain ⟨g, hg, ho⟩ := hI.2.2.2.1 rfl
      rw [h4] at hg
      cases hg
      exact ho.src 1
    refine wp_append_lie w _ _ 26 rfl W0.heap.size 9 i0 _ 1 16 Try.underlying26 hi hz0 hz1 hz2 rfl (by decide) u44 nl LN rfl (hI.2.2.1 rfl).2 (some ⟨g4, 0, none⟩) 1 1 [Value.string ⟨#[122, 122]⟩] rfl rfl HS (fun u hu => by simp at hu; subst hu; rfl) (by unfold maxLen; omega) (by omega) hB0.size ?_
    intro v' w' hown hgr hbl
    have hI2 := hI.appN hown hgr hbl
    refine hK.out _ _ hI2.1 (fun _ => ?_)
    exact tn11010_2 rfl rfl hS hp hF hI2 ((updO_ne _ _ (by omega)).trans h11)
  · skip
    have hI2 := hI.alloc6
    go_simp
    refine hK.out _ _ hI2.1 (fun _ => ?_)
    exact tn11110_1 rfl rfl hS hp hF hI2 ((updO_ne _ _ (by omega)).trans h4) ((updO_ne _ _ (by omega)).trans h11)
  · skip
    have hI2 := hI.alloc14
    go_simp
    refine hK.out _ _ hI2.1 (fun _ => ?_)
    exact tn11011_1 rfl rfl hS hp hF hI2 ((updO_ne _ _ (by omega)).trans h4) ((updO_ne _ _ (by omega)).trans h11) (updO_at _ _ _)
set_option maxRecDepth 100000 in
set_option maxHeartbeats 2000000 in
theorem tn11001_1 {Q : Exit → Act → World → Prop} {t0 t1 t2 t4 t5 t6 t7 t9 t10 t11 t12 t13 t14 t15 t16 t17 t18 t19 t20 t21 t22 t23 t24 t25 t26 t27 t28 t29 t30 t31 t32 t33 t34 t35 t36 t37 t38 t39 t40 t46 t47 t50 t52 t53 t54 t55 t56 t57 t58 t59 t60 t61 t62 t63 t64 t65 t66 t67 t68 t69 t70 t71 t72 t73 t74 t75 t76 t77 t78 t79 t80 t81 t82 t83 t84 t85 t86 t87 : Value} {W0 : World} {vb nl il nc ic : Nat} {na ia : Option Addr} {LN LI : List Value} {w : World} {f : Nat → Option Nat} {u41 u44 uI : Value} {g4 g14 : Nat} {fl : Array Bool} {A : Act} (hfl : fl = #[true, true, true, true, true, false, false, true, true, false, true, false, false, false, true, false]) (hA : A = { tmps := (t0 :: t1 :: t2 :: .pointer (some ⟨vb, 0, none⟩) :: t4 :: t5 :: t6 :: t7 :: .pointer (some ⟨g14, 0, none⟩) :: t9 :: t10 :: t11 :: t12 :: t13 :: t14 :: t15 :: t16 :: t17 :: t18 :: t19 :: t20 :: t21 :: t22 :: t23 :: t24 :: t25 :: t26 :: t27 :: t28 :: t29 :: t30 :: t31 :: t32 :: t33 :: t34 :: t35 :: t36 :: t37 :: t38 :: t39 :: t40 :: u41 :: .pointer (some ⟨vb, 5, none⟩) :: .slice na nl nc :: u44 :: .slice (some ⟨g4, 0, none⟩) 1 1 :: t46 :: t47 :: .pointer (some ⟨vb, 4, none⟩) :: .slice ia il ic :: t50 :: .agg #[.int .i64 0, .int .i64 0, .int .i64 0, .string ⟨#[]⟩, .slice none 0 0, .slice none 0 0] :: t52 :: t53 :: t54 :: t55 :: t56 :: t57 :: t58 :: t59 :: t60 :: t61 :: t62 :: t63 :: t64 :: t65 :: t66 :: t67 :: t68 :: t69 :: t70 :: t71 :: t72 :: t73 :: t74 :: t75 :: t76 :: t77 :: t78 :: t79 :: t80 :: t81 :: t82 :: t83 :: t84 :: t85 :: t86 :: t87 :: []).toArray, defers := [] })
    (hS : SrcT W0 na ia nl il LN LI) (hp : ∀ p d v a w, Q (.panic p) (Act.put a d v) w → Q (.panic p) a w) (hF : FinT Q W0 vb nl il nc ic na ia LN LI t0 t1 t2 t4 t5 t6 t7 t9 t10 t11 t12 t13 t14 t15 t16 t17 t18 t19 t20 t21 t22 t23 t24 t25 t26 t27 t28 t29 t30 t31 t32 t33 t34 t35 t36 t37 t38 t39 t40 t55 t56 t57 t58 t59 t60 t61 t62 t63 t64 t65 t66 t67 t68 t69 t70 t71 t72 t73 t74 t75 t76 t77 t78 t79 t80 t81 t82 t83 t84 t85 t86 t87) (hI : InvT W0 w f ⟨#[122, 122]⟩ u44 nl LN uI 0 [] true true false false true) (h4 : f 1 = some g4) (h14 : f 4 = some g14) :
    wpAnyH Try.prog .any tnOps Q (fun w' => Below W0.heap.size W0 w') 7 fl A w := by
  subst hfl hA
  have hB0 := hI.1
  refine wpAnyH_ready (rs := [5, 6, 11]) (by kernel_rfl) (by simp) ?_
  refine AllReadyH.cons rfl (fun K hK => ?_) (AllReadyH.cons rfl (fun K hK => ?_) (AllReadyH.cons rfl (fun K hK => ?_) AllReadyH.nil))
  · skip
    obtain ⟨i0, hi, hz0, hz1, hz2⟩ := info_parts textInfo
    obtain ⟨⟨HL1, HL2⟩, ⟨HO1, HO2⟩, ⟨hl1, hl2⟩, hSS⟩ := id hS
    have HS : Src w (some ⟨g4, 0, none⟩) 1 [Value.string ⟨#[122, 122]⟩] := by
      obtain ⟨g, hg, ho⟩ := hI.2.2.2.1 rfl
      rw [h4] at hg
      cases hg
      exact ho.src 1
    refine wp_append_lie w _ _ 26 rfl W0.heap.size 9 i0 _ 1 16 Try.underlying26 hi hz0 hz1 hz2 rfl (by decide) u44 nl LN rfl (hI.2.2.1 rfl).2 (some ⟨g4, 0, none⟩) 1 1 [Value.string ⟨#[122, 122]⟩] rfl rfl HS (fun u hu => by simp at hu; subst hu; rfl) (by unfold maxLen; omega) (by omega) hB0.size ?_
    intro v' w' hown hgr hbl
    have hI2 := hI.appN hown hgr hbl
    refine hK.out _ _ hI2.1 (fun _ => ?_)
    exact tn11001_2 rfl rfl hS hp hF hI2 ((updO_ne _ _ (by omega)).trans h14)
  · skip
    have hI2 := hI.alloc6
    go_simp
    refine hK.out _ _ hI2.1 (fun _ => ?_)
    exact tn11101_1 rfl rfl hS hp hF hI2 ((updO_ne _ _ (by omega)).trans h4) ((updO_ne _ _ (by omega)).trans h14)
  · skip
    have hI2 := hI.alloc11
    go_simp
    refine hK.out _ _ hI2.1 (fun _ => ?_)
    exact tn11011_1 rfl rfl hS hp hF hI2 ((updO_ne _ _ (by omega)).trans h4) (updO_at _ _ _) ((updO_ne _ _ (by omega)).trans h14)
set_option maxRecDepth 100000 in
set_option maxHeartbeats 2000000 in
theorem tn10110_1 {Q : Exit → Act → World → Prop} {t0 t1 t2 t4 t5 t6 t7 t8 t9 t10 t11 t12 t13 t14 t15 t16 t17 t18 t19 t20 t21 t22 t23 t24 t25 t26 t27 t28 t29 t30 t31 t32 t33 t34 t35 t36 t37 t38 t39 t40 t45 t46 t50 t53 t54 t55 t56 t57 t58 t59 t60 t61 t62 t63 t64 t65 t66 t67 t68 t69 t70 t71 t72 t73 t74 t75 t76 t77 t78 t79 t80 t81 t82 t83 t84 t85 t86 t87 : Value} {W0 : World} {vb nl il nc ic : Nat} {na ia : Option Addr} {LN LI : List Value} {w : World} {f : Nat → Option Nat} {u41 u44 u47 : Value} {g11 : Nat} {fl : Array Bool} {A : Act} (hfl : fl = #[true, true, true, true, false, false, true, true, true, false, true, true, false, false, false, false]) (hA : A = { tmps := (t0 :: t1 :: t2 :: .pointer (some ⟨vb, 0, none⟩) :: t4 :: t5 :: t6 :: t7 :: t8 :: t9 :: t10 :: t11 :: t12 :: t13 :: t14 :: t15 :: t16 :: t17 :: t18 :: t19 :: t20 :: t21 :: t22 :: t23 :: t24 :: t25 :: t26 :: t27 :: t28 :: t29 :: t30 :: t31 :: t32 :: t33 :: t34 :: t35 :: t36 :: t37 :: t38 :: t39 :: t40 :: u41 :: .pointer (some ⟨vb, 5, none⟩) :: .slice na nl nc :: u44 :: t45 :: t46 :: u47 :: .pointer (some ⟨vb, 4, none⟩) :: .slice ia il ic :: t50 :: .agg #[.int .i64 0, .int .i64 0, .int .i64 0, .string ⟨#[]⟩, .slice none 0 0, .slice none 0 0] :: .slice (some ⟨g11, 0, none⟩) 1 1 :: t53 :: t54 :: t55 :: t56 :: t57 :: t58 :: t59 :: t60 :: t61 :: t62 :: t63 :: t64 :: t65 :: t66 :: t67 :: t68 :: t69 :: t70 :: t71 :: t72 :: t73 :: t74 :: t75 :: t76 :: t77 :: t78 :: t79 :: t80 :: t81 :: t82 :: t83 :: t84 :: t85 :: t86 :: t87 :: []).toArray, defers := [] })
    (hS : SrcT W0 na ia nl il LN LI) (hp : ∀ p d v a w, Q (.panic p) (Act.put a d v) w → Q (.panic p) a w) (hF : FinT Q W0 vb nl il nc ic na ia LN LI t0 t1 t2 t4 t5 t6 t7 t9 t10 t11 t12 t13 t14 t15 t16 t17 t18 t19 t20 t21 t22 t23 t24 t25 t26 t27 t28 t29 t30 t31 t32 t33 t34 t35 t36 t37 t38 t39 t40 t55 t56 t57 t58 t59 t60 t61 t62 t63 t64 t65 t66 t67 t68 t69 t70 t71 t72 t73 t74 t75 t76 t77 t78 t79 t80 t81 t82 t83 t84 t85 t86 t87) (hI : InvT W0 w f ⟨#[122, 122]⟩ u44 nl LN u47 0 [] true false true true false) (h11 : f 3 = some g11) :
    wpAnyH Try.prog .any tnOps Q (fun w' => Below W0.heap.size W0 w') 7 fl A w := by
  subst hfl hA
  have hB0 := hI.1
  refine wpAnyH_ready (rs := [4, 14]) (by kernel_rfl) (by simp) ?_
  refine AllReadyH.cons rfl (fun K hK => ?_) (AllReadyH.cons rfl (fun K hK => ?_) AllReadyH.nil)
  · skip
    have hI2 := hI.alloc4
    go_simp
    refine hK.out _ _ hI2.1 (fun _ => ?_)
    exact tn11110_1 rfl rfl hS hp hF hI2 (updO_at _ _ _) ((updO_ne _ _ (by omega)).trans h11)
  · skip
    have hI2 := hI.alloc14
    go_simp
    refine hK.out _ _ hI2.1 (fun _ => ?_)
    exact tn10111_1 rfl rfl hS hp hF hI2 ((updO_ne _ _ (by omega)).trans h11) (updO_at _ _ _)
set_option maxRecDepth 100000 in
set_option maxHeartbeats 2000000 in
theorem tn10101_1 {Q : Exit → Act → World → Prop} {t0 t1 t2 t4 t5 t6 t7 t9 t10 t11 t12 t13 t14 t15 t16 t17 t18 t19 t20 t21 t22 t23 t24 t25 t26 t27 t28 t29 t30 t31 t32 t33 t34 t35 t36 t37 t38 t39 t40 t45 t46 t50 t52 t53 t54 t55 t56 t57 t58 t59 t60 t61 t62 t63 t64 t65 t66 t67 t68 t69 t70 t71 t72 t73 t74 t75 t76 t77 t78 t79 t80 t81 t82 t83 t84 t85 t86 t87 : Value} {W0 : World} {vb nl il nc ic : Nat} {na ia : Option Addr} {LN LI : List Value} {w : World} {f : Nat → Option Nat} {u41 u44 u47 : Value} {g14 : Nat} {fl : Array Bool} {A : Act} (hfl : fl = #[true, true, true, true, false, false, true, true, true, false, true, false, false, false, true, false]) (hA : A = { tmps := (t0 :: t1 :: t2 :: .pointer (some ⟨vb, 0, none⟩) :: t4 :: t5 :: t6 :: t7 :: .pointer (some ⟨g14, 0, none⟩) :: t9 :: t10 :: t11 :: t12 :: t13 :: t14 :: t15 :: t16 :: t17 :: t18 :: t19 :: t20 :: t21 :: t22 :: t23 :: t24 :: t25 :: t26 :: t27 :: t28 :: t29 :: t30 :: t31 :: t32 :: t33 :: t34 :: t35 :: t36 :: t37 :: t38 :: t39 :: t40 :: u41 :: .pointer (some ⟨vb, 5, none⟩) :: .slice na nl nc :: u44 :: t45 :: t46 :: u47 :: .pointer (some ⟨vb, 4, none⟩) :: .slice ia il ic :: t50 :: .agg #[.int .i64 0, .int .i64 0, .int .i64 0, .string ⟨#[]⟩, .slice none 0 0, .slice none 0 0] :: t52 :: t53 :: t54 :: t55 :: t56 :: t57 :: t58 :: t59 :: t60 :: t61 :: t62 :: t63 :: t64 :: t65 :: t66 :: t67 :: t68 :: t69 :: t70 :: t71 :: t72 :: t73 :: t74 :: t75 :: t76 :: t77 :: t78 :: t79 :: t80 :: t81 :: t82 :: t83 :: t84 :: t85 :: t86 :: t87 :: []).toArray, defers := [] })
    (hS : SrcT W0 na ia nl il LN LI) (hp : ∀ p d v a w, Q (.panic p) (Act.put a d v) w → Q (.panic p) a w) (hF : FinT Q W0 vb nl il nc ic na ia LN LI t0 t1 t2 t4 t5 t6 t7 t9 t10 t11 t12 t13 t14 t15 t16 t17 t18 t19 t20 t21 t22 t23 t24 t25 t26 t27 t28 t29 t30 t31 t32 t33 t34 t35 t36 t37 t38 t39 t40 t55 t56 t57 t58 t59 t60 t61 t62 t63 t64 t65 t66 t67 t68 t69 t70 t71 t72 t73 t74 t75 t76 t77 t78 t79 t80 t81 t82 t83 t84 t85 t86 t87) (hI : InvT W0 w f ⟨#[122, 122]⟩ u44 nl LN u47 0 [] true false true false true) (h14 : f 4 = some g14) :
    wpAnyH Try.prog .any tnOps Q (fun w' => Below W0.heap.size W0 w') 7 fl A w := by
  subst hfl hA
  have hB0 := hI.1
  refine wpAnyH_ready (rs := [4, 11]) (by kernel_rfl) (by simp) ?_
  refine AllReadyH.cons rfl (fun K hK => ?_) (AllReadyH.cons rfl (fun K hK => ?_) AllReadyH.nil)
  · skip
    have hI2 := hI.alloc4
    go_simp
    refine hK.out _ _ hI2.1 (fun _ => ?_)
    exact tn11101_1 rfl rfl hS hp hF hI2 (updO_at _ _ _) ((updO_ne _ _ (by omega)).trans h14)
  · skip
    have hI2 := hI.alloc11
    go_simp
    refine hK.out _ _ hI2.1 (fun _ => ?_)
    exact tn10111_1 rfl rfl hS hp hF hI2 (updO_at _ _ _) ((updO_ne _ _ (by omega)).trans h14)
set_option maxRecDepth 100000 in
set_option maxHeartbeats 2000000 in
theorem tn10011_1 {Q : Exit → Act → World → Prop} {t0 t1 t2 t4 t5 t6 t7 t9 t10 t11 t12 t13 t14 t15 t16 t17 t18 t19 t20 t21 t22 t23 t24 t25 t26 t27 t28 t29 t30 t31 t32 t33 t34 t35 t36 t37 t38 t39 t40 t45 t46 t47 t50 t53 t54 t55 t56 t57 t58 t59 t60 t61 t62 t63 t64 t65 t66 t67 t68 t69 t70 t71 t72 t73 t74 t75 t76 t77 t78 t79 t80 t81 t82 t83 t84 t85 t86 t87 : Value} {W0 : World} {vb nl il nc ic : Nat} {na ia : Option Addr} {LN LI : List Value} {w : World} {f : Nat → Option Nat} {u41 u44 uI : Value} {g11 g14 : Nat} {fl : Array Bool} {A : Act} (hfl : fl = #[true, true, true, true, false, false, false, true, true, false, true, true, false, false, true, false]) (hA : A = { tmps := (t0 :: t1 :: t2 :: .pointer (some ⟨vb, 0, none⟩) :: t4 :: t5 :: t6 :: t7 :: .pointer (some ⟨g14, 0, none⟩) :: t9 :: t10 :: t11 :: t12 :: t13 :: t14 :: t15 :: t16 :: t17 :: t18 :: t19 :: t20 :: t21 :: t22 :: t23 :: t24 :: t25 :: t26 :: t27 :: t28 :: t29 :: t30 :: t31 :: t32 :: t33 :: t34 :: t35 :: t36 :: t37 :: t38 :: t39 :: t40 :: u41 :: .pointer (some ⟨vb, 5, none⟩) :: .slice na nl nc :: u44 :: t45 :: t46 :: t47 :: .pointer (some ⟨vb, 4, none⟩) :: .slice ia il ic :: t50 :: .agg #[.int .i64 0, .int .i64 0, .int .i64 0, .string ⟨#[]⟩, .slice none 0 0, .slice none 0 0] :: .slice (some ⟨g11, 0, none⟩) 1 1 :: t53 :: t54 :: t55 :: t56 :: t57 :: t58 :: t59 :: t60 :: t61 :: t62 :: t63 :: t64 :: t65 :: t66 :: t67 :: t68 :: t69 :: t70 :: t71 :: t72 :: t73 :: t74 :: t75 :: t76 :: t77 :: t78 :: t79 :: t80 :: t81 :: t82 :: t83 :: t84 :: t85 :: t86 :: t87 :: []).toArray, defers := [] })
    (hS : SrcT W0 na ia nl il LN LI) (hp : ∀ p d v a w, Q (.panic p) (Act.put a d v) w → Q (.panic p) a w) (hF : FinT Q W0 vb nl il nc ic na ia LN LI t0 t1 t2 t4 t5 t6 t7 t9 t10 t11 t12 t13 t14 t15 t16 t17 t18 t19 t20 t21 t22 t23 t24 t25 t26 t27 t28 t29 t30 t31 t32 t33 t34 t35 t36 t37 t38 t39 t40 t55 t56 t57 t58 t59 t60 t61 t62 t63 t64 t65 t66 t67 t68 t69 t70 t71 t72 t73 t74 t75 t76 t77 t78 t79 t80 t81 t82 t83 t84 t85 t86 t87) (hI : InvT W0 w f ⟨#[122, 122]⟩ u44 nl LN uI 0 [] true false false true true) (h11 : f 3 = some g11) (h14 : f 4 = some g14) :
    wpAnyH Try.prog .any tnOps Q (fun w' => Below W0.heap.size W0 w') 7 fl A w := by
  subst hfl hA
  have hB0 := hI.1
  refine wpAnyH_ready (rs := [4, 6]) (by kernel_rfl) (by simp) ?_
  refine AllReadyH.cons rfl (fun K hK => ?_) (AllReadyH.cons rfl (fun K hK => ?_) AllReadyH.nil)
  · skip
    have hI2 := hI.alloc4
    go_simp
    refine hK.out _ _ hI2.1 (fun _ => ?_)
    exact tn11011_1 rfl rfl hS hp hF hI2 (updO_at _ _ _) ((updO_ne _ _ (by omega)).trans h11) ((updO_ne _ _ (by omega)).trans h14)
  · skip
    have hI2 := hI.alloc6
    go_simp
    refine hK.out _ _ hI2.1 (fun _ => ?_)
    exact tn10111_1 rfl rfl hS hp hF hI2 ((updO_ne _ _ (by omega)).trans h11) ((updO_ne _ _ (by omega)).trans h14)
set_option maxRecDepth 100000 in
set_option maxHeartbeats 2000000 in
theorem tn11000_1 {Q : Exit → Act → World → Prop} {t0 t1 t2 t4 t5 t6 t7 t8 t9 t10 t11 t12 t13 t14 t15 t16 t17 t18 t19 t20 t21 t22 t23 t24 t25 t26 t27 t28 t29 t30 t31 t32 t33 t34 t35 t36 t37 t38 t39 t40 t46 t47 t50 t52 t53 t54 t55 t56 t57 t58 t59 t60 t61 t62 t63 t64 t65 t66 t67 t68 t69 t70 t71 t72 t73 t74 t75 t76 t77 t78 t79 t80 t81 t82 t83 t84 t85 t86 t87 : Value} {W0 : World} {vb nl il nc ic : Nat} {na ia : Option Addr} {LN LI : List Value} {w : World} {f : Nat → Option Nat} {u41 u44 uI : Value} {g4 : Nat} {fl : Array Bool} {A : Act} (hfl : fl = #[true, true, true, true, true, false, false, true, true, false, true, false, false, false, false, false]) (hA : A = { tmps := (t0 :: t1 :: t2 :: .pointer (some ⟨vb, 0, none⟩) :: t4 :: t5 :: t6 :: t7 :: t8 :: t9 :: t10 :: t11 :: t12 :: t13 :: t14 :: t15 :: t16 :: t17 :: t18 :: t19 :: t20 :: t21 :: t22 :: t23 :: t24 :: t25 :: t26 :: t27 :: t28 :: t29 :: t30 :: t31 :: t32 :: t33 :: t34 :: t35 :: t36 :: t37 :: t38 :: t39 :: t40 :: u41 :: .pointer (some ⟨vb, 5, none⟩) :: .slice na nl nc :: u44 :: .slice (some ⟨g4, 0, none⟩) 1 1 :: t46 :: t47 :: .pointer (some ⟨vb, 4, none⟩) :: .slice ia il ic :: t50 :: .agg #[.int .i64 0, .int .i64 0, .int .i64 0, .string ⟨#[]⟩, .slice none 0 0, .slice none 0 0] :: t52 :: t53 :: t54 :: t55 :: t56 :: t57 :: t58 :: t59 :: t60 :: t61 :: t62 :: t63 :: t64 :: t65 :: t66 :: t67 :: t68 :: t69 :: t70 :: t71 :: t72 :: t73 :: t74 :: t75 :: t76 :: t77 :: t78 :: t79 :: t80 :: t81 :: t82 :: t83 :: t84 :: t85 :: t86 :: t87 :: []).toArray, defers := [] })
    (hS : SrcT W0 na ia nl il LN LI) (hp : ∀ p d v a w, Q (.panic p) (Act.put a d v) w → Q (.panic p) a w) (hF : FinT Q W0 vb nl il nc ic na ia LN LI t0 t1 t2 t4 t5 t6 t7 t9 t10 t11 t12 t13 t14 t15 t16 t17 t18 t19 t20 t21 t22 t23 t24 t25 t26 t27 t28 t29 t30 t31 t32 t33 t34 t35 t36 t37 t38 t39 t40 t55 t56 t57 t58 t59 t60 t61 t62 t63 t64 t65 t66 t67 t68 t69 t70 t71 t72 t73 t74 t75 t76 t77 t78 t79 t80 t81 t82 t83 t84 t85 t86 t87) (hI : InvT W0 w f ⟨#[122, 122]⟩ u44 nl LN uI 0 [] true true false false false) (h4 : f 1 = some g4) :
    wpAnyH Try.prog .any tnOps Q (fun w' => Below W0.heap.size W0 w') 8 fl A w := by
  subst hfl hA
  have hB0 := hI.1
  refine wpAnyH_ready (rs := [5, 6, 11, 14]) (by kernel_rfl) (by simp) ?_
  refine AllReadyH.cons rfl (fun K hK => ?_) (AllReadyH.cons rfl (fun K hK => ?_) (AllReadyH.cons rfl (fun K hK => ?_) (AllReadyH.cons rfl (fun K hK => ?_) AllReadyH.nil)))
  · skip
    obtain ⟨i0, hi, hz0, hz1, hz2⟩ := info_parts textInfo
    obtain ⟨⟨HL1, HL2⟩, ⟨HO1, HO2⟩, ⟨hl1, hl2⟩, hSS⟩ := id hS
    have HS : Src w (some ⟨g4, 0, none⟩) 1 [Value.string ⟨#[122, 122]⟩] := by
      obtain ⟨g, hg, ho⟩ := hI.2.2.2.1 rfl
      rw [h4] at hg
      cases hg
      exact ho.src 1
    refine wp_append_lie w _ _ 26 rfl W0.heap.size 9 i0 _ 1 16 Try.underlying26 hi hz0 hz1 hz2 rfl (by decide) u44 nl LN rfl (hI.2.2.1 rfl).2 (some ⟨g4, 0, none⟩) 1 1 [Value.string ⟨#[122, 122]⟩] rfl rfl HS (fun u hu => by simp at hu; subst hu; rfl) (by unfold maxLen; omega) (by omega) hB0.size ?_
    intro v' w' hown hgr hbl
    have hI2 := hI.appN hown hgr hbl
    refine hK.out _ _ hI2.1 (fun _ => ?_)
    exact tn11000_2 rfl rfl hS hp hF hI2
  · skip
    have hI2 := hI.alloc6
    go_simp
    refine hK.out _ _ hI2.1 (fun _ => ?_)
    exact tn11100_1 rfl rfl hS hp hF hI2 ((updO_ne _ _ (by omega)).trans h4)
  · skip
    have hI2 := hI.alloc11
    go_simp
    refine hK.out _ _ hI2.1 (fun _ => ?_)
    exact tn11010_1 rfl rfl hS hp hF hI2 ((updO_ne _ _ (by omega)).trans h4) (updO_at _ _ _)
  · skip
    have hI2 := hI.alloc14
    go_simp
    refine hK.out _ _ hI2.1 (fun _ => ?_)
    exact tn11001_1 rfl rfl hS hp hF hI2 ((updO_ne _ _ (by omega)).trans h4) (updO_at _ _ _)
set_option maxRecDepth 100000 in
set_option maxHeartbeats 2000000 in
theorem tn10100_1 {Q : Exit → Act → World → Prop} {t0 t1 t2 t4 t5 t6 t7 t8 t9 t10 t11 t12 t13 t14 t15 t16 t17 t18 t19 t20 t21 t22 t23 t24 t25 t26 t27 t28 t29 t30 t31 t32 t33 t34 t35 t36 t37 t38 t39 t40 t45 t46 t50 t52 t53 t54 t55 t56 t57 t58 t59 t60 t61 t62 t63 t64 t65 t66 t67 t68 t69 t70 t71 t72 t73 t74 t75 t76 t77 t78 t79 t80 t81 t82 t83 t84 t85 t86 t87 : Value} {W0 : World} {vb nl il nc ic : Nat} {na ia : Option Addr} {LN LI : List Value} {w : World} {f : Nat → Option Nat} {u41 u44 u47 : Value} {fl : Array Bool} {A : Act} (hfl : fl = #[true, true, true, true, false, false, true, true, true, false, true, false, false, false, false, false]) (hA : A = { tmps := (t0 :: t1 :: t2 :: .pointer (some ⟨vb, 0, none⟩) :: t4 :: t5 :: t6 :: t7 :: t8 :: t9 :: t10 :: t11 :: t12 :: t13 :: t14 :: t15 :: t16 :: t17 :: t18 :: t19 :: t20 :: t21 :: t22 :: t23 :: t24 :: t25 :: t26 :: t27 :: t28 :: t29 :: t30 :: t31 :: t32 :: t33 :: t34 :: t35 :: t36 :: t37 :: t38 :: t39 :: t40 :: u41 :: .pointer (some ⟨vb, 5, none⟩) :: .slice na nl nc :: u44 :: t45 :: t46 :: u47 :: .pointer (some ⟨vb, 4, none⟩) :: .slice ia il ic :: t50 :: .agg #[.int .i64 0, .int .i64 0, .int .i64 0, .string ⟨#[]⟩, .slice none 0 0, .slice none 0 0] :: t52 :: t53 :: t54 :: t55 :: t56 :: t57 :: t58 :: t59 :: t60 :: t61 :: t62 :: t63 :: t64 :: t65 :: t66 :: t67 :: t68 :: t69 :: t70 :: t71 :: t72 :: t73 :: t74 :: t75 :: t76 :: t77 :: t78 :: t79 :: t80 :: t81 :: t82 :: t83 :: t84 :: t85 :: t86 :: t87 :: []).toArray, defers := [] })
    (hS : SrcT W0 na ia nl il LN LI) (hp : ∀ p d v a w, Q (.panic p) (Act.put a d v) w → Q (.panic p) a w) (hF : FinT Q W0 vb nl il nc ic na ia LN LI t0 t1 t2 t4 t5 t6 t7 t9 t10 t11 t12 t13 t14 t15 t16 t17 t18 t19 t20 t21 t22 t23 t24 t25 t26 t27 t28 t29 t30 t31 t32 t33 t34 t35 t36 t37 t38 t39 t40 t55 t56 t57 t58 t59 t60 t61 t62 t63 t64 t65 t66 t67 t68 t69 t70 t71 t72 t73 t74 t75 t76 t77 t78 t79 t80 t81 t82 t83 t84 t85 t86 t87) (hI : InvT W0 w f ⟨#[122, 122]⟩ u44 nl LN u47 0 [] true false true false false) :
    wpAnyH Try.prog .any tnOps Q (fun w' => Below W0.heap.size W0 w') 8 fl A w := by
  subst hfl hA
  have hB0 := hI.1
  refine wpAnyH_ready (rs := [4, 11, 14]) (by kernel_rfl) (by simp) ?_
  refine AllReadyH.cons rfl (fun K hK => ?_) (AllReadyH.cons rfl (fun K hK => ?_) (AllReadyH.cons rfl (fun K hK => ?_) AllReadyH.nil))
  · skip
    have hI2 := hI.alloc4
    go_simp
    refine hK.out _ _ hI2.1 (fun _ => ?_)
    exact tn11100_1 rfl rfl hS hp hF hI2 (updO_at _ _ _)
  · skip
    have hI2 := hI.alloc11
    go_simp
    refine hK.out _ _ hI2.1 (fun _ => ?_)
    exact tn10110_1 rfl rfl hS hp hF hI2 (updO_at _ _ _)
  · skip
    have hI2 := hI.alloc14
    go_simp
    refine hK.out _ _ hI2.1 (fun _ => ?_)
    exact tn10101_1 rfl rfl hS hp hF hI2 (updO_at _ _ _)
set_option maxRecDepth 100000 in
set_option maxHeartbeats 2000000 in
theorem tn10010_1 {Q : Exit → Act → World → Prop} {t0 t1 t2 t4 t5 t6 t7 t8 t9 t10 t11 t12 t13 t14 t15 t16 t17 t18 t19 t20 t21 t22 t23 t24 t25 t26 t27 t28 t29 t30 t31 t32 t33 t34 t35 t36 t37 t38 t39 t40 t45 t46 t47 t50 t53 t54 t55 t56 t57 t58 t59 t60 t61 t62 t63 t64 t65 t66 t67 t68 t69 t70 t71 t72 t73 t74 t75 t76 t77 t78 t79 t80 t81 t82 t83 t84 t85 t86 t87 : Value} {W0 : World} {vb nl il nc ic : Nat} {na ia : Option Addr} {LN LI : List Value} {w : World} {f : Nat → Option Nat} {u41 u44 uI : Value} {g11 : Nat} {fl : Array Bool} {A : Act} (hfl : fl = #[true, true, true, true, false, false, false, true, true, false, true, true, false, false, false, false]) (hA : A = { tmps := (t0 :: t1 :: t2 :: .pointer (some ⟨vb, 0, none⟩) :: t4 :: t5 :: t6 :: t7 :: t8 :: t9 :: t10 :: t11 :: t12 :: t13 :: t14 :: t15 :: t16 :: t17 :: t18 :: t19 :: t20 :: t21 :: t22 :: t23 :: t24 :: t25 :: t26 :: t27 :: t28 :: t29 :: t30 :: t31 :: t32 :: t33 :: t34 :: t35 :: t36 :: t37 :: t38 :: t39 :: t40 :: u41 :: .pointer (some ⟨vb, 5, none⟩) :: .slice na nl nc :: u44 :: t45 :: t46 :: t47 :: .pointer (some ⟨vb, 4, none⟩) :: .slice ia il ic :: t50 :: .agg #[.int .i64 0, .int .i64 0, .int .i64 0, .string ⟨#[]⟩, .slice none 0 0, .slice none 0 0] :: .slice (some ⟨g11, 0, none⟩) 1 1 :: t53 :: t54 :: t55 :: t56 :: t57 :: t58 :: t59 :: t60 :: t61 :: t62 :: t63 :: t64 :: t65 :: t66 :: t67 :: t68 :: t69 :: t70 :: t71 :: t72 :: t73 :: t74 :: t75 :: t76 :: t77 :: t78 :: t79 :: t80 :: t81 :: t82 :: t83 :: t84 :: t85 :: t86 :: t87 :: []).toArray, defers := [] })
    (hS : SrcT W0 na ia nl il LN LI) (hp : ∀ p d v a w, Q (.panic p) (Act.put a d v) w → Q (.panic p) a w) (hF : FinT Q W0 vb nl il nc ic na ia LN LI t0 t1 t2 t4 t5 t6 t7 t9 t10 t11 t12 t13 t14 t15 t16 t17 t18 t19 t20 t21 t22 t23 t24 t25 t26 t27 t28 t29 t30 t31 t32 t33 t34 t35 t36 t37 t38 t39 t40 t55 t56 t57 t58 t59 t60 t61 t62 t63 t64 t65 t66 t67 t68 t69 t70 t71 t72 t73 t74 t75 t76 t77 t78 t79 t80 t81 t82 t83 t84 t85 t86 t87) (hI : InvT W0 w f ⟨#[122, 122]⟩ u44 nl LN uI 0 [] true false false true false) (h11 : f 3 = some g11) :
    wpAnyH Try.prog .any tnOps Q (fun w' => Below W0.heap.size W0 w') 8 fl A w := by
  subst hfl hA
  have hB0 := hI.1
  refine wpAnyH_ready (rs := [4, 6, 14]) (by kernel_rfl) (by simp) ?_
  refine AllReadyH.cons rfl (fun K hK => ?_) (AllReadyH.cons rfl (fun K hK => ?_) (AllReadyH.cons rfl (fun K hK => ?_) AllReadyH.nil))
  · skip
    have hI2 := hI.alloc4
    go_simp
    refine hK.out _ _ hI2.1 (fun _ => ?_)
    exact tn11010_1 rfl rfl hS hp hF hI2 (updO_at _ _ _) ((updO_ne _ _ (by omega)).trans h11)
  · skip
    have hI2 := hI.alloc6
    go_simp
    refine hK.out _ _ hI2.1 (fun _ => ?_)
    exact tn10110_1 rfl rfl hS hp hF hI2 ((updO_ne _ _ (by omega)).trans h11)
  · skip
    have hI2 := hI.alloc14
    go_simp
    refine hK.out _ _ hI2.1 (fun _ => ?_)
    exact tn10011_1 rfl rfl hS hp hF hI2 ((updO_ne _ _ (by omega)).trans h11) (updO_at _ _ _)
set_option maxRecDepth 100000 in
set_option maxHeartbeats 2000000 in
theorem tn10001_1 {Q : Exit → Act → World → Prop} {t0 t1 t2 t4 t5 t6 t7 t9 t10 t11 t12 t13 t14 t15 t16 t17 t18 t19 t20 t21 t22 t23 t24 t25 t26 t27 t28 t29 t30 t31 t32 t33 t34 t35 t36 t37 t38 t39 t40 t45 t46 t47 t50 t52 t53 t54 t55 t56 t57 t58 t59 t60 t61 t62 t63 t64 t65 t66 t67 t68 t69 t70 t71 t72 t73 t74 t75 t76 t77 t78 t79 t80 t81 t82 t83 t84 t85 t86 t87 : Value} {W0 : World} {vb nl il nc ic : Nat} {na ia : Option Addr} {LN LI : List Value} {w : World} {f : Nat → Option Nat} {u41 u44 uI : Value} {g14 : Nat} {fl : Array Bool} {A : Act} (hfl : fl = #[true, true, true, true, false, false, false, true, true, false, true, false, false, false, true, false]) (hA : A = { tmps := (t0 :: t1 :: t2 :: .pointer (some ⟨vb, 0, none⟩) :: t4 :: t5 :: t6 :: t7 :: .pointer (some ⟨g14, 0, none⟩) :: t9 :: t10 :: t11 :: t12 :: t13 :: t14 :: t15 :: t16 :: t17 :: t18 :: t19 :: t20 :: t21 :: t22 :: t23 :: t24 :: t25 :: t26 :: t27 :: t28 :: t29 :: t30 :: t31 :: t32 :: t33 :: t34 :: t35 :: t36 :: t37 :: t38 :: t39 :: t40 :: u41 :: .pointer (some ⟨vb, 5, none⟩) :: .slice na nl nc :: u44 :: t45 :: t46 :: t47 :: .pointer (some ⟨vb, 4, none⟩) :: .slice ia il ic :: t50 :: .agg #[.int .i64 0, .int .i64 0, .int .i64 0, .string ⟨#[]⟩, .slice none 0 0, .slice none 0 0] :: t52 :: t53 :: t54 :: t55 :: t56 :: t57 :: t58 :: t59 :: t60 :: t61 :: t62 :: t63 :: t64 :: t65 :: t66 :: t67 :: t68 :: t69 :: t70 :: t71 :: t72 :: t73 :: t74 :: t75 :: t76 :: t77 :: t78 :: t79 :: t80 :: t81 :: t82 :: t83 :: t84 :: t85 :: t86 :: t87 :: []).toArray, defers := [] })
    (hS : SrcT W0 na ia nl il LN LI) (hp : ∀ p d v a w, Q (.panic p) (Act.put a d v) w → Q (.panic p) a w) (hF : FinT Q W0 vb nl il nc ic na ia LN LI t0 t1 t2 t4 t5 t6 t7 t9 t10 t11 t12 t13 t14 t15 t16 t17 t18 t19 t20 t21 t22 t23 t24 t25 t26 t27 t28 t29 t30 t31 t32 t33 t34 t35 t36 t37 t38 t39 t40 t55 t56 t57 t58 t59 t60 t61 t62 t63 t64 t65 t66 t67 t68 t69 t70 t71 t72 t73 t74 t75 t76 t77 t78 t79 t80 t81 t82 t83 t84 t85 t86 t87) (hI : InvT W0 w f ⟨#[122, 122]⟩ u44 nl LN uI 0 [] true false false false true) (h14 : f 4 = some g14) :
    wpAnyH Try.prog .any tnOps Q (fun w' => Below W0.heap.size W0 w') 8 fl A w := by
  subst hfl hA
  have hB0 := hI.1
  refine wpAnyH_ready (rs := [4, 6, 11]) (by kernel_rfl) (by simp) ?_
  refine AllReadyH.cons rfl (fun K hK => ?_) (AllReadyH.cons rfl (fun K hK => ?_) (AllReadyH.cons rfl (fun K hK => ?_) AllReadyH.nil))
  · skip
    have hI2 := hI.alloc4
    go_simp
    refine hK.out _ _ hI2.1 (fun _ => ?_)
    exact tn11001_1 rfl rfl hS hp hF hI2 (updO_at _ _ _) ((updO_ne _ _ (by omega)).trans h14)
  · skip
    have hI2 := hI.alloc6
    go_simp
    refine hK.out _ _ hI2.1 (fun _ => ?_)
    exact tn10101_1 rfl rfl hS hp hF hI2 ((updO_ne _ _ (by omega)).trans h14)
  · skip
    have hI2 := hI.alloc11
    go_simp
    refine hK.out _ _ hI2.1 (fun _ => ?_)
    exact tn10011_1 rfl rfl hS hp hF hI2 (updO_at _ _ _) ((updO_ne _ _ (by omega)).trans h14)
set_option maxRecDepth 100000 in
set_option maxHeartbeats 2000000 in
theorem tn10000_1 {Q : Exit → Act → World → Prop} {t0 t1 t2 t4 t5 t6 t7 t8 t9 t10 t11 t12 t13 t14 t15 t16 t17 t18 t19 t20 t21 t22 t23 t24 t25 t26 t27 t28 t29 t30 t31 t32 t33 t34 t35 t36 t37 t38 t39 t40 t45 t46 t47 t50 t52 t53 t54 t55 t56 t57 t58 t59 t60 t61 t62 t63 t64 t65 t66 t67 t68 t69 t70 t71 t72 t73 t74 t75 t76 t77 t78 t79 t80 t81 t82 t83 t84 t85 t86 t87 : Value} {W0 : World} {vb nl il nc ic : Nat} {na ia : Option Addr} {LN LI : List Value} {w : World} {f : Nat → Option Nat} {u41 u44 uI : Value} {fl : Array Bool} {A : Act} (hfl : fl = #[true, true, true, true, false, false, false, true, true, false, true, false, false, false, false, false]) (hA : A = { tmps := (t0 :: t1 :: t2 :: .pointer (some ⟨vb, 0, none⟩) :: t4 :: t5 :: t6 :: t7 :: t8 :: t9 :: t10 :: t11 :: t12 :: t13 :: t14 :: t15 :: t16 :: t17 :: t18 :: t19 :: t20 :: t21 :: t22 :: t23 :: t24 :: t25 :: t26 :: t27 :: t28 :: t29 :: t30 :: t31 :: t32 :: t33 :: t34 :: t35 :: t36 :: t37 :: t38 :: t39 :: t40 :: u41 :: .pointer (some ⟨vb, 5, none⟩) :: .slice na nl nc :: u44 :: t45 :: t46 :: t47 :: .pointer (some ⟨vb, 4, none⟩) :: .slice ia il ic :: t50 :: .agg #[.int .i64 0, .int .i64 0, .int .i64 0, .string ⟨#[]⟩, .slice none 0 0, .slice none 0 0] :: t52 :: t53 :: t54 :: t55 :: t56 :: t57 :: t58 :: t59 :: t60 :: t61 :: t62 :: t63 :: t64 :: t65 :: t66 :: t67 :: t68 :: t69 :: t70 :: t71 :: t72 :: t73 :: t74 :: t75 :: t76 :: t77 :: t78 :: t79 :: t80 :: t81 :: t82 :: t83 :: t84 :: t85 :: t86 :: t87 :: []).toArray, defers := [] })
    (hS : SrcT W0 na ia nl il LN LI) (hp : ∀ p d v a w, Q (.panic p) (Act.put a d v) w → Q (.panic p) a w) (hF : FinT Q W0 vb nl il nc ic na ia LN LI t0 t1 t2 t4 t5 t6 t7 t9 t10 t11 t12 t13 t14 t15 t16 t17 t18 t19 t20 t21 t22 t23 t24 t25 t26 t27 t28 t29 t30 t31 t32 t33 t34 t35 t36 t37 t38 t39 t40 t55 t56 t57 t58 t59 t60 t61 t62 t63 t64 t65 t66 t67 t68 t69 t70 t71 t72 t73 t74 t75 t76 t77 t78 t79 t80 t81 t82 t83 t84 t85 t86 t87) (hI : InvT W0 w f ⟨#[122, 122]⟩ u44 nl LN uI 0 [] true false false false false) :
    wpAnyH Try.prog .any tnOps Q (fun w' => Below W0.heap.size W0 w') 9 fl A w := by
  subst hfl hA
  have hB0 := hI.1
  refine wpAnyH_ready (rs := [4, 6, 11, 14]) (by kernel_rfl) (by simp) ?_
  refine AllReadyH.cons rfl (fun K hK => ?_) (AllReadyH.cons rfl (fun K hK => ?_) (AllReadyH.cons rfl (fun K hK => ?_) (AllReadyH.cons rfl (fun K hK => ?_) AllReadyH.nil)))
  · skip
    have hI2 := hI.alloc4
    go_simp
    refine hK.out _ _ hI2.1 (fun _ => ?_)
    exact tn11000_1 rfl rfl hS hp hF hI2 (updO_at _ _ _)
  · skip
    have hI2 := hI.alloc6
    go_simp
    refine hK.out _ _ hI2.1 (fun _ => ?_)
    exact tn10100_1 rfl rfl hS hp hF hI2
  · skip
    have hI2 := hI.alloc11
    go_simp
    refine hK.out _ _ hI2.1 (fun _ => ?_)
    exact tn10010_1 rfl rfl hS hp hF hI2 (updO_at _ _ _)
  · skip
    have hI2 := hI.alloc14
    go_simp
    refine hK.out _ _ hI2.1 (fun _ => ?_)
    exact tn10001_1 rfl rfl hS hp hF hI2 (updO_at _ _ _)
set_option maxRecDepth 100000 in
set_option maxHeartbeats 2000000 in
theorem tn11111_0 {Q : Exit → Act → World → Prop} {t0 t1 t2 t4 t5 t6 t7 t9 t10 t11 t12 t13 t14 t15 t16 t17 t18 t19 t20 t21 t22 t23 t24 t25 t26 t27 t28 t29 t30 t31 t32 t33 t34 t35 t36 t37 t38 t39 t40 t44 t46 t50 t53 t54 t55 t56 t57 t58 t59 t60 t61 t62 t63 t64 t65 t66 t67 t68 t69 t70 t71 t72 t73 t74 t75 t76 t77 t78 t79 t80 t81 t82 t83 t84 t85 t86 t87 : Value} {W0 : World} {vb nl il nc ic : Nat} {na ia : Option Addr} {LN LI : List Value} {w : World} {f : Nat → Option Nat} {u41 u47 : Value} {g4 g11 g14 : Nat} {fl : Array Bool} {A : Act} (hfl : fl = #[true, true, true, false, true, false, true, true, true, false, true, true, false, false, true, false]) (hA : A = { tmps := (t0 :: t1 :: t2 :: .pointer (some ⟨vb, 0, none⟩) :: t4 :: t5 :: t6 :: t7 :: .pointer (some ⟨g14, 0, none⟩) :: t9 :: t10 :: t11 :: t12 :: t13 :: t14 :: t15 :: t16 :: t17 :: t18 :: t19 :: t20 :: t21 :: t22 :: t23 :: t24 :: t25 :: t26 :: t27 :: t28 :: t29 :: t30 :: t31 :: t32 :: t33 :: t34 :: t35 :: t36 :: t37 :: t38 :: t39 :: t40 :: u41 :: .pointer (some ⟨vb, 5, none⟩) :: .slice na nl nc :: t44 :: .slice (some ⟨g4, 0, none⟩) 1 1 :: t46 :: u47 :: .pointer (some ⟨vb, 4, none⟩) :: .slice ia il ic :: t50 :: .agg #[.int .i64 0, .int .i64 0, .int .i64 0, .string ⟨#[]⟩, .slice none 0 0, .slice none 0 0] :: .slice (some ⟨g11, 0, none⟩) 1 1 :: t53 :: t54 :: t55 :: t56 :: t57 :: t58 :: t59 :: t60 :: t61 :: t62 :: t63 :: t64 :: t65 :: t66 :: t67 :: t68 :: t69 :: t70 :: t71 :: t72 :: t73 :: t74 :: t75 :: t76 :: t77 :: t78 :: t79 :: t80 :: t81 :: t82 :: t83 :: t84 :: t85 :: t86 :: t87 :: []).toArray, defers := [] })
    (hS : SrcT W0 na ia nl il LN LI) (hp : ∀ p d v a w, Q (.panic p) (Act.put a d v) w → Q (.panic p) a w) (hF : FinT Q W0 vb nl il nc ic na ia LN LI t0 t1 t2 t4 t5 t6 t7 t9 t10 t11 t12 t13 t14 t15 t16 t17 t18 t19 t20 t21 t22 t23 t24 t25 t26 t27 t28 t29 t30 t31 t32 t33 t34 t35 t36 t37 t38 t39 t40 t55 t56 t57 t58 t59 t60 t61 t62 t63 t64 t65 t66 t67 t68 t69 t70 t71 t72 t73 t74 t75 t76 t77 t78 t79 t80 t81 t82 t83 t84 t85 t86 t87) (hI : InvT W0 w f ⟨#[122, 122]⟩ u41 0 [] u47 0 [] true true true true true) (h4 : f 1 = some g4) (h11 : f 3 = some g11) (h14 : f 4 = some g14) :
    wpAnyH Try.prog .any tnOps Q (fun w' => Below W0.heap.size W0 w') 6 fl A w := by
  subst hfl hA
  have hB0 := hI.1
  refine wpAnyH_ready (rs := [3]) (by kernel_rfl) (by simp) ?_
  refine AllReadyH.cons rfl (fun K hK => ?_) AllReadyH.nil
  obtain ⟨i0, hi, hz0, hz1, hz2⟩ := info_parts textInfo
  obtain ⟨⟨HL1, HL2⟩, ⟨HO1, HO2⟩, ⟨hl1, hl2⟩, hSS⟩ := id hS
  have HS := hSS _ hB0
  refine wp_append_lie w _ _ 26 rfl W0.heap.size 9 i0 _ 1 16 Try.underlying26 hi hz0 hz1 hz2 rfl (by decide) u41 0 [] rfl (hI.2.2.1 rfl).2 na nl nc LN rfl HL1 HS.1 HO1 (by unfold maxLen; omega) (by omega) hB0.size ?_
  intro v' w' hown hgr hbl
  have hI2 := hI.appN hown hgr hbl
  rw [List.nil_append, Nat.zero_add] at hI2
  refine hK.out _ _ hI2.1 (fun _ => ?_)
  exact tn11111_1 rfl rfl hS hp hF hI2 ((updO_ne _ _ (by omega)).trans h4) ((updO_ne _ _ (by omega)).trans h11) ((updO_ne _ _ (by omega)).trans h14)
set_option maxRecDepth 100000 in
set_option maxHeartbeats 2000000 in
theorem tn11110_0 {Q : Exit → Act → World → Prop} {t0 t1 t2 t4 t5 t6 t7 t8 t9 t10 t11 t12 t13 t14 t15 t16 t17 t18 t19 t20 t21 t22 t23 t24 t25 t26 t27 t28 t29 t30 t31 t32 t33 t34 t35 t36 t37 t38 t39 t40 t44 t46 t50 t53 t54 t55 t56 t57 t58 t59 t60 t61 t62 t63 t64 t65 t66 t67 t68 t69 t70 t71 t72 t73 t74 t75 t76 t77 t78 t79 t80 t81 t82 t83 t84 t85 t86 t87 : Value} {W0 : World} {vb nl il nc ic : Nat} {na ia : Option Addr} {LN LI : List Value} {w : World} {f : Nat → Option Nat} {u41 u47 : Value} {g4 g11 : Nat} {fl : Array Bool} {A : Act} (hfl : fl = #[true, true, true, false, true, false, true, true, true, false, true, true, false, false, false, false]) (hA : A = { tmps := (t0 :: t1 :: t2 :: .pointer (some ⟨vb, 0, none⟩) :: t4 :: t5 :: t6 :: t7 :: t8 :: t9 :: t10 :: t11 :: t12 :: t13 :: t14 :: t15 :: t16 :: t17 :: t18 :: t19 :: t20 :: t21 :: t22 :: t23 :: t24 :: t25 :: t26 :: t27 :: t28 :: t29 :: t30 :: t31 :: t32 :: t33 :: t34 :: t35 :: t36 :: t37 :: t38 :: t39 :: t40 :: u41 :: .pointer (some ⟨vb, 5, none⟩) :: .slice na nl nc :: t44 :: .slice (some ⟨g4, 0, none⟩) 1 1 :: t46 :: u47 :: .pointer (some ⟨vb, 4, none⟩) :: .slice ia il ic :: t50 :: .agg #[.int .i64 0, .int .i64 0, .int .i64 0, .string ⟨#[]⟩, .slice none 0 0, .slice none 0 0] :: .slice (some ⟨g11, 0, none⟩) 1 1 :: t53 :: t54 :: t55 :: t56 :: t57 :: t58 :: t59 :: t60 :: t61 :: t62 :: t63 :: t64 :: t65 :: t66 :: t67 :: t68 :: t69 :: t70 :: t71 :: t72 :: t73 :: t74 :: t75 :: t76 :: t77 :: t78 :: t79 :: t80 :: t81 :: t82 :: t83 :: t84 :: t85 :: t86 :: t87 :: []).toArray, defers := [] })
    (hS : SrcT W0 na ia nl il LN LI) (hp : ∀ p d v a w, Q (.panic p) (Act.put a d v) w → Q (.panic p) a w) (hF : FinT Q W0 vb nl il nc ic na ia LN LI t0 t1 t2 t4 t5 t6 t7 t9 t10 t11 t12 t13 t14 t15 t16 t17 t18 t19 t20 t21 t22 t23 t24 t25 t26 t27 t28 t29 t30 t31 t32 t33 t34 t35 t36 t37 t38 t39 t40 t55 t56 t57 t58 t59 t60 t61 t62 t63 t64 t65 t66 t67 t68 t69 t70 t71 t72 t73 t74 t75 t76 t77 t78 t79 t80 t81 t82 t83 t84 t85 t86 t87) (hI : InvT W0 w f ⟨#[122, 122]⟩ u41 0 [] u47 0 [] true true true true false) (h4 : f 1 = some g4) (h11 : f 3 = some g11) :
    wpAnyH Try.prog .any tnOps Q (fun w' => Below W0.heap.size W0 w') 7 fl A w := by
  subst hfl hA
  have hB0 := hI.1
  refine wpAnyH_ready (rs := [3, 14]) (by kernel_rfl) (by simp) ?_
  refine AllReadyH.cons rfl (fun K hK => ?_) (AllReadyH.cons rfl (fun K hK => ?_) AllReadyH.nil)
  · skip
    obtain ⟨i0, hi, hz0, hz1, hz2⟩ := info_parts textInfo
    obtain ⟨⟨HL1, HL2⟩, ⟨HO1, HO2⟩, ⟨hl1, hl2⟩, hSS⟩ := id hS
    have HS := hSS _ hB0
    refine wp_append_lie w _ _ 26 rfl W0.heap.size 9 i0 _ 1 16 Try.underlying26 hi hz0 hz1 hz2 rfl (by decide) u41 0 [] rfl (hI.2.2.1 rfl).2 na nl nc LN rfl HL1 HS.1 HO1 (by unfold maxLen; omega) (by omega) hB0.size ?_
    intro v' w' hown hgr hbl
    have hI2 := hI.appN hown hgr hbl
    rw [List.nil_append, Nat.zero_add] at hI2
    refine hK.out _ _ hI2.1 (fun _ => ?_)
    exact tn11110_1 rfl rfl hS hp hF hI2 ((updO_ne _ _ (by omega)).trans h4) ((updO_ne _ _ (by omega)).trans h11)
  · skip
    have hI2 := hI.alloc14
    go_simp
    refine hK.out _ _ hI2.1 (fun _ => ?_)
    exact tn11111_0 rfl rfl hS hp hF hI2 ((updO_ne _ _ (by omega)).trans h4) ((updO_ne _ _ (by omega)).trans h11) (updO_at _ _ _)
set_option maxRecDepth 100000 in
set_option maxHeartbeats 2000000 in
theorem tn11101_0 {Q : Exit → Act → World → Prop} {t0 t1 t2 t4 t5 t6 t7 t9 t10 t11 t12 t13 t14 t15 t16 t17 t18 t19 t20 t21 t22 t23 t24 t25 t26 t27 t28 t29 t30 t31 t32 t33 t34 t35 t36 t37 t38 t39 t40 t44 t46 t50 t52 t53 t54 t55 t56 t57 t58 t59 t60 t61 t62 t63 t64 t65 t66 t67 t68 t69 t70 t71 t72 t73 t74 t75 t76 t77 t78 t79 t80 t81 t82 t83 t84 t85 t86 t87 : Value} {W0 : World} {vb nl il nc ic : Nat} {na ia : Option Addr} {LN LI : List Value} {w : World} {f : Nat → Option Nat} {u41 u47 : Value} {g4 g14 : Nat} {fl : Array Bool} {A : Act} (hfl : fl = #[true, true, true, false, true, false, true, true, true, false, true, false, false, false, true, false]) (hA : A = { tmps := (t0 :: t1 :: t2 :: .pointer (some ⟨vb, 0, none⟩) :: t4 :: t5 :: t6 :: t7 :: .pointer (some ⟨g14, 0, none⟩) :: t9 :: t10 :: t11 :: t12 :: t13 :: t14 :: t15 :: t16 :: t17 :: t18 :: t19 :: t20 :: t21 :: t22 :: t23 :: t24 :: t25 :: t26 :: t27 :: t28 :: t29 :: t30 :: t31 :: t32 :: t33 :: t34 :: t35 :: t36 :: t37 :: t38 :: t39 :: t40 :: u41 :: .pointer (some ⟨vb, 5, none⟩) :: .slice na nl nc :: t44 :: .slice (some ⟨g4, 0, none⟩) 1 1 :: t46 :: u47 :: .pointer (some ⟨vb, 4, none⟩) :: .slice ia il ic :: t50 :: .agg #[.int .i64 0, .int .i64 0, .int .i64 0, .string ⟨#[]⟩, .slice none 0 0, .slice none 0 0] :: t52 :: t53 :: t54 :: t55 :: t56 :: t57 :: t58 :: t59 :: t60 :: t61 :: t62 :: t63 :: t64 :: t65 :: t66 :: t67 :: t68 :: t69 :: t70 :: t71 :: t72 :: t73 :: t74 :: t75 :: t76 :: t77 :: t78 :: t79 :: t80 :: t81 :: t82 :: t83 :: t84 :: t85 :: t86 :: t87 :: []).toArray, defers := [] })
    (hS : SrcT W0 na ia nl il LN LI) (hp : ∀ p d v a w, Q (.panic p) (Act.put a d v) w → Q (.panic p) a w) (hF : FinT Q W0 vb nl il nc ic na ia LN LI t0 t1 t2 t4 t5 t6 t7 t9 t10 t11 t12 t13 t14 t15 t16 t17 t18 t19 t20 t21 t22 t23 t24 t25 t26 t27 t28 t29 t30 t31 t32 t33 t34 t35 t36 t37 t38 t39 t40 t55 t56 t57 t58 t59 t60 t61 t62 t63 t64 t65 t66 t67 t68 t69 t70 t71 t72 t73 t74 t75 t76 t77 t78 t79 t80 t81 t82 t83 t84 t85 t86 t87) (hI : InvT W0 w f ⟨#[122, 122]⟩ u41 0 [] u47 0 [] true true true false true) (h4 : f 1 = some g4) (h14 : f 4 = some g14) :
    wpAnyH Try.prog .any tnOps Q (fun w' => Below W0.heap.size W0 w') 7 fl A w := by
  subst hfl hA
  have hB0 := hI.1
  refine wpAnyH_ready (rs := [3, 11]) (by kernel_rfl) (by simp) ?_
  refine AllReadyH.cons rfl (fun K hK => ?_) (AllReadyH.cons rfl (fun K hK => ?_) AllReadyH.nil)
  · skip
    obtain ⟨i0, hi, hz0, hz1, hz2⟩ := info_parts textInfo
    obtain ⟨⟨HL1, HL2⟩, ⟨HO1, HO2⟩, ⟨hl1, hl2⟩, hSS⟩ := id hS
    have HS := hSS _ hB0
    refine wp_append_lie w _ _ 26 rfl W0.heap.size 9 i0 _ 1 16 Try.underlying26 hi hz0 hz1 hz2 rfl (by decide) u41 0 [] rfl (hI.2.2.1 rfl).2 na nl nc LN rfl HL1 HS.1 HO1 (by unfold maxLen; omega) (by omega) hB0.size ?_
    intro v' w' hown hgr hbl
    have hI2 := hI.appN hown hgr hbl
    rw [List.nil_append, Nat.zero_add] at hI2
    refine hK.out _ _ hI2.1 (fun _ => ?_)
    exact tn11101_1 rfl rfl hS hp hF hI2 ((updO_ne _ _ (by omega)).trans h4) ((updO_ne _ _ (by omega)).trans h14)
  · skip
    have hI2 := hI.alloc11
    go_simp
    refine hK.out _ _ hI2.1 (fun _ => ?_)
    exact tn11111_0 rfl rfl hS hp hF hI2 ((updO_ne _ _ (by omega)).trans h4) (updO_at _ _ _) ((updO_ne _ _ (by omega)).trans h14)
set_option maxRecDepth 100000 in
set_option maxHeartbeats 2000000 in
theorem tn11011_0 {Q : Exit → Act → World → Prop} {t0 t1 t2 t4 t5 t6 t7 t9 t10 t11 t12 t13 t14 t15 t16 t17 t18 t19 t20 t21 t22 t23 t24 t25 t26 t27 t28 t29 t30 t31 t32 t33 t34 t35 t36 t37 t38 t39 t40 t44 t46 t47 t50 t53 t54 t55 t56 t57 t58 t59 t60 t61 t62 t63 t64 t65 t66 t67 t68 t69 t70 t71 t72 t73 t74 t75 t76 t77 t78 t79 t80 t81 t82 t83 t84 t85 t86 t87 : Value} {W0 : World} {vb nl il nc ic : Nat} {na ia : Option Addr} {LN LI : List Value} {w : World} {f : Nat → Option Nat} {u41 uI : Value} {g4 g11 g14 : Nat} {fl : Array Bool} {A : Act} (hfl : fl = #[true, true, true, false, true, false, false, true, true, false, true, true, false, false, true, false]) (hA : A = { tmps := (t0 :: t1 :: t2 :: .pointer (some ⟨vb, 0, none⟩) :: t4 :: t5 :: t6 :: t7 :: .pointer (some ⟨g14, 0, none⟩) :: t9 :: t10 :: t11 :: t12 :: t13 :: t14 :: t15 :: t16 :: t17 :: t18 :: t19 :: t20 :: t21 :: t22 :: t23 :: t24 :: t25 :: t26 :: t27 :: t28 :: t29 :: t30 :: t31 :: t32 :: t33 :: t34 :: t35 :: t36 :: t37 :: t38 :: t39 :: t40 :: u41 :: .pointer (some ⟨vb, 5, none⟩) :: .slice na nl nc :: t44 :: .slice (some ⟨g4, 0, none⟩) 1 1 :: t46 :: t47 :: .pointer (some ⟨vb, 4, none⟩) :: .slice ia il ic :: t50 :: .agg #[.int .i64 0, .int .i64 0, .int .i64 0, .string ⟨#[]⟩, .slice none 0 0, .slice none 0 0] :: .slice (some ⟨g11, 0, none⟩) 1 1 :: t53 :: t54 :: t55 :: t56 :: t57 :: t58 :: t59 :: t60 :: t61 :: t62 :: t63 :: t64 :: t65 :: t66 :: t67 :: t68 :: t69 :: t70 :: t71 :: t72 :: t73 :: t74 :: t75 :: t76 :: t77 :: t78 :: t79 :: t80 :: t81 :: t82 :: t83 :: t84 :: t85 :: t86 :: t87 :: []).toArray, defers := [] })
    (hS : SrcT W0 na ia nl il LN LI) (hp : ∀ p d v a w, Q (.panic p) (Act.put a d v) w → Q (.panic p) a w) (hF : FinT Q W0 vb nl il nc ic na ia LN LI t0 t1 t2 t4 t5 t6 t7 t9 t10 t11 t12 t13 t14 t15 t16 t17 t18 t19 t20 t21 t22 t23 t24 t25 t26 t27 t28 t29 t30 t31 t32 t33 t34 t35 t36 t37 t38 t39 t40 t55 t56 t57 t58 t59 t60 t61 t62 t63 t64 t65 t66 t67 t68 t69 t70 t71 t72 t73 t74 t75 t76 t77 t78 t79 t80 t81 t82 t83 t84 t85 t86 t87) (hI : InvT W0 w f ⟨#[122, 122]⟩ u41 0 [] uI 0 [] true true false true true) (h4 : f 1 = some g4) (h11 : f 3 = some g11) (h14 : f 4 = some g14) :
    wpAnyH Try.prog .any tnOps Q (fun w' => Below W0.heap.size W0 w') 7 fl A w := by
  subst hfl hA
  have hB0 := hI.1
  refine wpAnyH_ready (rs := [3, 6]) (by kernel_rfl) (by simp) ?_
  refine AllReadyH.cons rfl (fun K hK => ?_) (AllReadyH.cons rfl (fun K hK => ?_) AllReadyH.nil)
  · skip
    obtain ⟨i0, hi, hz0, hz1, hz2⟩ := info_parts textInfo
    obtain ⟨⟨HL1, HL2⟩, ⟨HO1, HO2⟩, ⟨hl1, hl2⟩, hSS⟩ := id hS
    have HS := hSS _ hB0
    refine wp_append_lie w _ _ 26 rfl W0.heap.size 9 i0 _ 1 16 Try.underlying26 hi hz0 hz1 hz2 rfl (by decide) u41 0 [] rfl (hI.2.2.1 rfl).2 na nl nc LN rfl HL1 HS.1 HO1 (by unfold maxLen; omega) (by omega) hB0.size ?_
    intro v' w' hown hgr hbl
    have hI2 := hI.appN hown hgr hbl
    rw [List.nil_append, Nat.zero_add] at hI2
    refine hK.out _ _ hI2.1 (fun _ => ?_)
    exact tn11011_1 rfl rfl hS hp hF hI2 ((updO_ne _ _ (by omega)).trans h4) ((updO_ne _ _ (by omega)).trans h11) ((updO_ne _ _ (by omega)).trans h14)
  · skip
    have hI2 := hI.alloc6
    go_simp
    refine hK.out _ _ hI2.1 (fun _ => ?_)
    exact tn11111_0 rfl rfl hS hp hF hI2 ((updO_ne _ _ (by omega)).trans h4) ((updO_ne _ _ (by omega)).trans h11) ((updO_ne _ _ (by omega)).trans h14)
set_option maxRecDepth 100000 in
set_option maxHeartbeats 2000000 in
theorem tn10111_0 {Q : Exit → Act → World → Prop} {t0 t1 t2 t4 t5 t6 t7 t9 t10 t11 t12 t13 t14 t15 t16 t17 t18 t19 t20 t21 t22 t23 t24 t25 t26 t27 t28 t29 t30 t31 t32 t33 t34 t35 t36 t37 t38 t39 t40 t44 t45 t46 t50 t53 t54 t55 t56 t57 t58 t59 t60 t61 t62 t63 t64 t65 t66 t67 t68 t69 t70 t71 t72 t73 t74 t75 t76 t77 t78 t79 t80 t81 t82 t83 t84 t85 t86 t87 : Value} {W0 : World} {vb nl il nc ic : Nat} {na ia : Option Addr} {LN LI : List Value} {w : World} {f : Nat → Option Nat} {u41 u47 : Value} {g11 g14 : Nat} {fl : Array Bool} {A : Act} (hfl : fl = #[true, true, true, false, false, false, true, true, true, false, true, true, false, false, true, false]) (hA : A = { tmps := (t0 :: t1 :: t2 :: .pointer (some ⟨vb, 0, none⟩) :: t4 :: t5 :: t6 :: t7 :: .pointer (some ⟨g14, 0, none⟩) :: t9 :: t10 :: t11 :: t12 :: t13 :: t14 :: t15 :: t16 :: t17 :: t18 :: t19 :: t20 :: t21 :: t22 :: t23 :: t24 :: t25 :: t26 :: t27 :: t28 :: t29 :: t30 :: t31 :: t32 :: t33 :: t34 :: t35 :: t36 :: t37 :: t38 :: t39 :: t40 :: u41 :: .pointer (some ⟨vb, 5, none⟩) :: .slice na nl nc :: t44 :: t45 :: t46 :: u47 :: .pointer (some ⟨vb, 4, none⟩) :: .slice ia il ic :: t50 :: .agg #[.int .i64 0, .int .i64 0, .int .i64 0, .string ⟨#[]⟩, .slice none 0 0, .slice none 0 0] :: .slice (some ⟨g11, 0, none⟩) 1 1 :: t53 :: t54 :: t55 :: t56 :: t57 :: t58 :: t59 :: t60 :: t61 :: t62 :: t63 :: t64 :: t65 :: t66 :: t67 :: t68 :: t69 :: t70 :: t71 :: t72 :: t73 :: t74 :: t75 :: t76 :: t77 :: t78 :: t79 :: t80 :: t81 :: t82 :: t83 :: t84 :: t85 :: t86 :: t87 :: []).toArray, defers := [] })
    (hS : SrcT W0 na ia nl il LN LI) (hp : ∀ p d v a w, Q (.panic p) (Act.put a d v) w → Q (.panic p) a w) (hF : FinT Q W0 vb nl il nc ic na ia LN LI t0 t1 t2 t4 t5 t6 t7 t9 t10 t11 t12 t13 t14 t15 t16 t17 t18 t19 t20 t21 t22 t23 t24 t25 t26 t27 t28 t29 t30 t31 t32 t33 t34 t35 t36 t37 t38 t39 t40 t55 t56 t57 t58 t59 t60 t61 t62 t63 t64 t65 t66 t67 t68 t69 t70 t71 t72 t73 t74 t75 t76 t77 t78 t79 t80 t81 t82 t83 t84 t85 t86 t87) (hI : InvT W0 w f ⟨#[122, 122]⟩ u41 0 [] u47 0 [] true false true true true) (h11 : f 3 = some g11) (h14 : f 4 = some g14) :
    wpAnyH Try.prog .any tnOps Q (fun w' => Below W0.heap.size W0 w') 7 fl A w := by
  subst hfl hA
  have hB0 := hI.1
  refine wpAnyH_ready (rs := [3, 4]) (by kernel_rfl) (by simp) ?_
  refine AllReadyH.cons rfl (fun K hK => ?_) (AllReadyH.cons rfl (fun K hK => ?_) AllReadyH.nil)
  · skip
    obtain ⟨i0, hi, hz0, hz1, hz2⟩ := info_parts textInfo
    obtain ⟨⟨HL1, HL2⟩, ⟨HO1, HO2⟩, ⟨hl1, hl2⟩, hSS⟩ := id hS
    have HS := hSS _ hB0
    refine wp_append_lie w _ _ 26 rfl W0.heap.size 9 i0 _ 1 16 Try.underlying26 hi hz0 hz1 hz2 rfl (by decide) u41 0 [] rfl (hI.2.2.1 rfl).2 na nl nc LN rfl HL1 HS.1 HO1 (by unfold maxLen; omega) (by omega) hB0.size ?_
    intro v' w' hown hgr hbl
    have hI2 := hI.appN hown hgr hbl
    rw [List.nil_append, Nat.zero_add] at hI2
    refine hK.out _ _ hI2.1 (fun _ => ?_)
    exact tn10111_1 rfl rfl hS hp hF hI2 ((updO_ne _ _ (by omega)).trans h11) ((updO_ne _ _ (by omega)).trans h14)
  · skip
    have hI2 := hI.alloc4
    go_simp
    refine hK.out _ _ hI2.1 (fun _ => ?_)
    exact tn11111_0 rfl rfl hS hp hF hI2 (updO_at _ _ _) ((updO_ne _ _ (by omega)).trans h11) ((updO_ne _ _ (by omega)).trans h14)
set_option maxRecDepth 100000 in
set_option maxHeartbeats 2000000 in
theorem tn01111_0 {Q : Exit → Act → World → Prop} {t0 t1 t2 t4 t5 t6 t7 t9 t10 t11 t12 t13 t14 t15 t16 t17 t18 t19 t20 t21 t22 t23 t24 t25 t26 t27 t28 t29 t30 t31 t32 t33 t34 t35 t36 t37 t38 t39 t40 t41 t44 t46 t50 t53 t54 t55 t56 t57 t58 t59 t60 t61 t62 t63 t64 t65 t66 t67 t68 t69 t70 t71 t72 t73 t74 t75 t76 t77 t78 t79 t80 t81 t82 t83 t84 t85 t86 t87 : Value} {W0 : World} {vb nl il nc ic : Nat} {na ia : Option Addr} {LN LI : List Value} {w : World} {f : Nat → Option Nat} {u47 uN : Value} {g4 g11 g14 : Nat} {fl : Array Bool} {A : Act} (hfl : fl = #[false, true, true, false, true, false, true, true, true, false, true, true, false, false, true, false]) (hA : A = { tmps := (t0 :: t1 :: t2 :: .pointer (some ⟨vb, 0, none⟩) :: t4 :: t5 :: t6 :: t7 :: .pointer (some ⟨g14, 0, none⟩) :: t9 :: t10 :: t11 :: t12 :: t13 :: t14 :: t15 :: t16 :: t17 :: t18 :: t19 :: t20 :: t21 :: t22 :: t23 :: t24 :: t25 :: t26 :: t27 :: t28 :: t29 :: t30 :: t31 :: t32 :: t33 :: t34 :: t35 :: t36 :: t37 :: t38 :: t39 :: t40 :: t41 :: .pointer (some ⟨vb, 5, none⟩) :: .slice na nl nc :: t44 :: .slice (some ⟨g4, 0, none⟩) 1 1 :: t46 :: u47 :: .pointer (some ⟨vb, 4, none⟩) :: .slice ia il ic :: t50 :: .agg #[.int .i64 0, .int .i64 0, .int .i64 0, .string ⟨#[]⟩, .slice none 0 0, .slice none 0 0] :: .slice (some ⟨g11, 0, none⟩) 1 1 :: t53 :: t54 :: t55 :: t56 :: t57 :: t58 :: t59 :: t60 :: t61 :: t62 :: t63 :: t64 :: t65 :: t66 :: t67 :: t68 :: t69 :: t70 :: t71 :: t72 :: t73 :: t74 :: t75 :: t76 :: t77 :: t78 :: t79 :: t80 :: t81 :: t82 :: t83 :: t84 :: t85 :: t86 :: t87 :: []).toArray, defers := [] })
    (hS : SrcT W0 na ia nl il LN LI) (hp : ∀ p d v a w, Q (.panic p) (Act.put a d v) w → Q (.panic p) a w) (hF : FinT Q W0 vb nl il nc ic na ia LN LI t0 t1 t2 t4 t5 t6 t7 t9 t10 t11 t12 t13 t14 t15 t16 t17 t18 t19 t20 t21 t22 t23 t24 t25 t26 t27 t28 t29 t30 t31 t32 t33 t34 t35 t36 t37 t38 t39 t40 t55 t56 t57 t58 t59 t60 t61 t62 t63 t64 t65 t66 t67 t68 t69 t70 t71 t72 t73 t74 t75 t76 t77 t78 t79 t80 t81 t82 t83 t84 t85 t86 t87) (hI : InvT W0 w f ⟨#[122, 122]⟩ uN 0 [] u47 0 [] false true true true true) (h4 : f 1 = some g4) (h11 : f 3 = some g11) (h14 : f 4 = some g14) :
    wpAnyH Try.prog .any tnOps Q (fun w' => Below W0.heap.size W0 w') 7 fl A w := by
  subst hfl hA
  have hB0 := hI.1
  refine wpAnyH_ready (rs := [0]) (by kernel_rfl) (by simp) ?_
  refine AllReadyH.cons rfl (fun K hK => ?_) AllReadyH.nil
  have hI2 := hI.alloc0
  go_simp
  refine hK.out _ _ hI2.1 (fun _ => ?_)
  exact tn11111_0 rfl rfl hS hp hF hI2 ((updO_ne _ _ (by omega)).trans h4) ((updO_ne _ _ (by omega)).trans h11) ((updO_ne _ _ (by omega)).trans h14)
set_option maxRecDepth 100000 in
set_option maxHeartbeats 2000000 in
theorem tn11100_0 {Q : Exit → Act → World → Prop} {t0 t1 t2 t4 t5 t6 t7 t8 t9 t10 t11 t12 t13 t14 t15 t16 t17 t18 t19 t20 t21 t22 t23 t24 t25 t26 t27 t28 t29 t30 t31 t32 t33 t34 t35 t36 t37 t38 t39 t40 t44 t46 t50 t52 t53 t54 t55 t56 t57 t58 t59 t60 t61 t62 t63 t64 t65 t66 t67 t68 t69 t70 t71 t72 t73 t74 t75 t76 t77 t78 t79 t80 t81 t82 t83 t84 t85 t86 t87 : Value} {W0 : World} {vb nl il nc ic : Nat} {na ia : Option Addr} {LN LI : List Value} {w : World} {f : Nat → Option Nat} {u41 u47 : Value} {g4 : Nat} {fl : Array Bool} {A : Act} (hfl : fl = #[true, true, true, false, true, false, true, true, true, false, true, false, false, false, false, false]) (hA : A = { tmps := (t0 :: t1 :: t2 :: .pointer (some ⟨vb, 0, none⟩) :: t4 :: t5 :: t6 :: t7 :: t8 :: t9 :: t10 :: t11 :: t12 :: t13 :: t14 :: t15 :: t16 :: t17 :: t18 :: t19 :: t20 :: t21 :: t22 :: t23 :: t24 :: t25 :: t26 :: t27 :: t28 :: t29 :: t30 :: t31 :: t32 :: t33 :: t34 :: t35 :: t36 :: t37 :: t38 :: t39 :: t40 :: u41 :: .pointer (some ⟨vb, 5, none⟩) :: .slice na nl nc :: t44 :: .slice (some ⟨g4, 0, none⟩) 1 1 :: t46 :: u47 :: .pointer (some ⟨vb, 4, none⟩) :: .slice ia il ic :: t50 :: .agg #[.int .i64 0, .int .i64 0, .int .i64 0, .string ⟨#[]⟩, .slice none 0 0, .slice none 0 0] :: t52 :: t53 :: t54 :: t55 :: t56 :: t57 :: t58 :: t59 :: t60 :: t61 :: t62 :: t63 :: t64 :: t65 :: t66 :: t67 :: t68 :: t69 :: t70 :: t71 :: t72 :: t73 :: t74 :: t75 :: t76 :: t77 :: t78 :: t79 :: t80 :: t81 :: t82 :: t83 :: t84 :: t85 :: t86 :: t87 :: []).toArray, defers := [] })
    (hS : SrcT W0 na ia nl il LN LI) (hp : ∀ p d v a w, Q (.panic p) (Act.put a d v) w → Q (.panic p) a w) (hF : FinT Q W0 vb nl il nc ic na ia LN LI t0 t1 t2 t4 t5 t6 t7 t9 t10 t11 t12 t13 t14 t15 t16 t17 t18 t19 t20 t21 t22 t23 t24 t25 t26 t27 t28 t29 t30 t31 t32 t33 t34 t35 t36 t37 t38 t39 t40 t55 t56 t57 t58 t59 t60 t61 t62 t63 t64 t65 t66 t67 t68 t69 t70 t71 t72 t73 t74 t75 t76 t77 t78 t79 t80 t81 t82 t83 t84 t85 t86 t87) (hI : InvT W0 w f ⟨#[122, 122]⟩ u41 0 [] u47 0 [] true true true false false) (h4 : f 1 = some g4) :
    wpAnyH Try.prog .any tnOps Q (fun w' => Below W0.heap.size W0 w') 8 fl A w := by
  subst hfl hA
  have hB0 := hI.1
  refine wpAnyH_ready (rs := [3, 11, 14]) (by kernel_rfl) (by simp) ?_
  refine AllReadyH.cons rfl (fun K hK => ?_) (AllReadyH.cons rfl (fun K hK => ?_) (AllReadyH.cons rfl (fun K hK => ?_) AllReadyH.nil))
  · skip
    obtain ⟨i0, hi, hz0, hz1, hz2⟩ := info_parts textInfo
    obtain ⟨⟨HL1, HL2⟩, ⟨HO1, HO2⟩, ⟨hl1, hl2⟩, hSS⟩ := id hS
    have HS := hSS _ hB0
    refine wp_append_lie w _ _ 26 rfl W0.heap.size 9 i0 _ 1 16 Try.underlying26 hi hz0 hz1 hz2 rfl (by decide) u41 0 [] rfl (hI.2.2.1 rfl).2 na nl nc LN rfl HL1 HS.1 HO1 (by unfold maxLen; omega) (by omega) hB0.size ?_
    intro v' w' hown hgr hbl
    have hI2 := hI.appN hown hgr hbl
    rw [List.nil_append, Nat.zero_add] at hI2
    refine hK.out _ _ hI2.1 (fun _ => ?_)
    exact tn11100_1 rfl rfl hS hp hF hI2 ((updO_ne _ _ (by omega)).trans h4)
  · skip
    have hI2 := hI.alloc11
    go_simp
    refine hK.out _ _ hI2.1 (fun _ => ?_)
    exact tn11110_0 rfl rfl hS hp hF hI2 ((updO_ne _ _ (by omega)).trans h4) (updO_at _ _ _)
  · skip
    have hI2 := hI.alloc14
    go_simp
    refine hK.out _ _ hI2.1 (fun _ => ?_)
    exact tn11101_0 rfl rfl hS hp hF hI2 ((updO_ne _ _ (by omega)).trans h4) (updO_at _ _ _)
set_option maxRecDepth 100000 in
set_option maxHeartbeats 2000000 in
theorem tn11010_0 {Q : Exit → Act → World → Prop} {t0 t1 t2 t4 t5 t6 t7 t8 t9 t10 t11 t12 t13 t14 t15 t16 t17 t18 t19 t20 t21 t22 t23 t24 t25 t26 t27 t28 t29 t30 t31 t32 t33 t34 t35 t36 t37 t38 t39 t40 t44 t46 t47 t50 t53 t54 t55 t56 t57 t58 t59 t60 t61 t62 t63 t64 t65 t66 t67 t68 t69 t70 t71 t72 t73 t74 t75 t76 t77 t78 t79 t80 t81 t82 t83 t84 t85 t86 t87 : Value} {W0 : World} {vb nl il nc ic : Nat} {na ia : Option Addr} {LN LI : List Value} {w : World} {f : Nat → Option Nat} {u41 uI : Value} {g4 g11 : Nat} {fl : Array Bool} {A : Act} (hfl : fl = #[true, true, true, false, true, false, false, true, true, false, true, true, false, false, false, false]) (hA : A = { tmps := (t0 :: t1 :: t2 :: .pointer (some ⟨vb, 0, none⟩) :: t4 :: t5 :: t6 :: t7 :: t8 :: t9 :: t10 :: t11 :: t12 :: t13 :: t14 :: t15 :: t16 :: t17 :: t18 :: t19 :: t20 :: t21 :: t22 :: t23 :: t24 :: t25 :: t26 :: t27 :: t28 :: t29 :: t30 :: t31 :: t32 :: t33 :: t34 :: t35 :: t36 :: t37 :: t38 :: t39 :: t40 :: u41 :: .pointer (some ⟨vb, 5, none⟩) :: .slice na nl nc :: t44 :: .slice (some ⟨g4, 0, none⟩) 1 1 :: t46 :: t47 :: .pointer (some ⟨vb, 4, none⟩) :: .slice ia il ic :: t50 :: .agg #[.int .i64 0, .int .i64 0, .int .i64 0, .string ⟨#[]⟩, .slice none 0 0, .slice none 0 0] :: .slice (some ⟨g11, 0, none⟩) 1 1 :: t53 :: t54 :: t55 :: t56 :: t57 :: t58 :: t59 :: t60 :: t61 :: t62 :: t63 :: t64 :: t65 :: t66 :: t67 :: t68 :: t69 :: t70 :: t71 :: t72 :: t73 :: t74 :: t75 :: t76 :: t77 :: t78 :: t79 :: t80 :: t81 :: t82 :: t83 :: t84 :: t85 :: t86 :: t87 :: []).toArray, defers := [] })
    (hS : SrcT W0 na ia nl il LN LI) (hp : ∀ p d v a w, Q (.panic p) (Act.put a d v) w → Q (.panic p) a w) (hF : FinT Q W0 vb nl il nc ic na ia LN LI t0 t1 t2 t4 t5 t6 t7 t9 t10 t11 t12 t13 t14 t15 t16 t17 t18 t19 t20 t21 t22 t23 t24 t25 t26 t27 t28 t29 t30 t31 t32 t33 t34 t35 t36 t37 t38 t39 t40 t55 t56 t57 t58 t59 t60 t61 t62 t63 t64 t65 t66 t67 t68 t69 t70 t71 t72 t73 t74 t75 t76 t77 t78 t79 t80 t81 t82 t83 t84 t85 t86 t87) (hI : InvT W0 w f ⟨#[122, 122]⟩ u41 0 [] uI 0 [] true true false true false) (h4 : f 1 = some g4) (h11 : f 3 = some g11) :
    wpAnyH Try.prog .any tnOps Q (fun w' => Below W0.heap.size W0 w') 8 fl A w := by
  subst hfl hA
  have hB0 := hI.1
  refine wpAnyH_ready (rs := [3, 6, 14]) (by kernel_rfl) (by simp) ?_
  refine AllReadyH.cons rfl (fun K hK => ?_) (AllReadyH.cons rfl (fun K hK => ?_) (AllReadyH.cons rfl (fun K hK => ?_) AllReadyH.nil))
  · skip
    obtain ⟨i0, hi, hz0, hz1, hz2⟩ := info_parts textInfo
    obtain ⟨⟨HL1, HL2⟩, ⟨HO1, HO2⟩, ⟨hl1, hl2⟩, hSS⟩ := id hS
    have HS := hSS _ hB0
    refine wp_append_lie w _ _ 26 rfl W0.heap.size 9 i0 _ 1 16 Try.underlying26 hi hz0 hz1 hz2 rfl (by decide) u41 0 [] rfl (hI.2.2.1 rfl).2 na nl nc LN rfl HL1 HS.1 HO1 (by unfold maxLen; omega) (by omega) hB0.size ?_
    intro v' w' hown hgr hbl
    have hI2 := hI.appN hown hgr hbl
    rw [List.nil_append, Nat.zero_add] at hI2
    refine hK.out _ _ hI2.1 (fun _ => ?_)
    exact tn11010_1 rfl rfl hS hp hF hI2 ((updO_ne _ _ (by omega)).trans h4) ((updO_ne _ _ (by omega)).trans h11)
  · skip
    have hI2 := hI.alloc6
    go_simp
    refine hK.out _ _ hI2.1 (fun _ => ?_)
    exact tn11110_0 rfl rfl hS hp hF hI2 ((updO_ne _ _ (by omega)).trans h4) ((updO_ne _ _ (by omega)).trans h11)
  · skip
    have hI2 := hI.alloc14
    go_simp
    refine hK.out _ _ hI2.1 (fun _ => ?_)
    exact tn11011_0 rfl rfl hS hp hF hI2 ((updO_ne _ _ (by omega)).trans h4) ((updO_ne _ _ (by omega)).trans h11) (updO_at _ _ _)
set_option maxRecDepth 100000 in
set_option maxHeartbeats 2000000 in
theorem tn11001_0 {Q : Exit → Act → World → Prop} {t0 t1 t2 t4 t5 t6 t7 t9 t10 t11 t12 t13 t14 t15 t16 t17 t18 t19 t20 t21 t22 t23 t24 t25 t26 t27 t28 t29 t30 t31 t32 t33 t34 t35 t36 t37 t38 t39 t40 t44 t46 t47 t50 t52 t53 t54 t55 t56 t57 t58 t59 t60 t61 t62 t63 t64 t65 t66 t67 t68 t69 t70 t71 t72 t73 t74 t75 t76 t77 t78 t79 t80 t81 t82 t83 t84 t85 t86 t87 : Value} {W0 : World} {vb nl il nc ic : Nat} {na ia : Option Addr} {LN LI : List Value} {w : World} {f : Nat → Option Nat} {u41 uI : Value} {g4 g14 : Nat} {fl : Array Bool} {A : Act} (hfl : fl = #[true, true, true, false, true, false, false, true, true, false, true, false, false, false, true, false]) (hA : A = { tmps := (t0 :: t1 :: t2 :: .pointer (some ⟨vb, 0, none⟩) :: t4 :: t5 :: t6 :: t7 :: .pointer (some ⟨g14, 0, none⟩) :: t9 :: t10 :: t11 :: t12 :: t13 :: t14 :: t15 :: t16 :: t17 :: t18 :: t19 :: t20 :: t21 :: t22 :: t23 :: t24 :: t25 :: t26 :: t27 :: t28 :: t29 :: t30 :: t31 :: t32 :: t33 :: t34 :: t35 :: t36 :: t37 :: t38 :: t39 :: t40 :: u41 :: .pointer (some ⟨vb, 5, none⟩) :: .slice na nl nc :: t44 :: .slice (some ⟨g4, 0, none⟩) 1 1 :: t46 :: t47 :: .pointer (some ⟨vb, 4, none⟩) :: .slice ia il ic :: t50 :: .agg #[.int .i64 0, .int .i64 0, .int .i64 0, .string ⟨#[]⟩, .slice none 0 0, .slice none 0 0] :: t52 :: t53 :: t54 :: t55 :: t56 :: t57 :: t58 :: t59 :: t60 :: t61 :: t62 :: t63 :: t64 :: t65 :: t66 :: t67 :: t68 :: t69 :: t70 :: t71 :: t72 :: t73 :: t74 :: t75 :: t76 :: t77 :: t78 :: t79 :: t80 :: t81 :: t82 :: t83 :: t84 :: t85 :: t86 :: t87 :: []).toArray, defers := [] })
    (hS : SrcT W0 na ia nl il LN LI) (hp : ∀ p d v a w, Q (.panic p) (Act.put a d v) w → Q (.panic p) a w) (hF : FinT Q W0 vb nl il nc ic na ia LN LI t0 t1 t2 t4 t5 t6 t7 t9 t10 t11 t12 t13 t14 t15 t16 t17 t18 t19 t20 t21 t22 t23 t24 t25 t26 t27 t28 t29 t30 t31 t32 t33 t34 t35 t36 t37 t38 t39 t40 t55 t56 t57 t58 t59 t60 t61 t62 t63 t64 t65 t66 t67 t68 t69 t70 t71 t72 t73 t74 t75 t76 t77 t78 t79 t80 t81 t82 t83 t84 t85 t86 t87) (hI : InvT W0 w f ⟨#[122, 122]⟩ u41 0 [] uI 0 [] true true false false true) (h4 : f 1 = some g4) (h14 : f 4 = some g14) :
    wpAnyH Try.prog .any tnOps Q (fun w' => Below W0.heap.size W0 w') 8 fl A w := by
  subst hfl hA
  have hB0 := hI.1
  refine wpAnyH_ready (rs := [3, 6, 11]) (by kernel_rfl) (by simp) ?_
  refine AllReadyH.cons rfl (fun K hK => ?_) (AllReadyH.cons rfl (fun K hK => ?_) (AllReadyH.cons rfl (fun K hK => ?_) AllReadyH.nil))
  · skip
    obtain ⟨i0, hi, hz0, hz1, hz2⟩ := info_parts textInfo
    obtain ⟨⟨HL1, HL2⟩, ⟨HO1, HO2⟩, ⟨hl1, hl2⟩, hSS⟩ := id hS
    have HS := hSS _ hB0
    refine wp_append_lie w _ _ 26 rfl W0.heap.size 9 i0 _ 1 16 Try.underlying26 hi hz0 hz1 hz2 rfl (by decide) u41 0 [] rfl (hI.2.2.1 rfl).2 na nl nc LN rfl HL1 HS.1 HO1 (by unfold maxLen; omega) (by omega) hB0.size ?_
    intro v' w' hown hgr hbl
    have hI2 := hI.appN hown hgr hbl
    rw [List.nil_append, Nat.zero_add] at hI2
    refine hK.out _ _ hI2.1 (fun _ => ?_)
    exact tn11001_1 rfl rfl hS hp hF hI2 ((updO_ne _ _ (by omega)).trans h4) ((updO_ne _ _ (by omega)).trans h14)
  · skip
    have hI2 := hI.alloc6
    go_simp
    refine hK.out _ _ hI2.1 (fun _ => ?_)
    exact tn11101_0 rfl rfl hS hp hF hI2 ((updO_ne _ _ (by omega)).trans h4) ((updO_ne _ _ (by omega)).trans h14)
  · skip
    have hI2 := hI.alloc11
    go_simp
    refine hK.out _ _ hI2.1 (fun _ => ?_)
    exact tn11011_0 rfl rfl hS hp hF hI2 ((updO_ne _ _ (by omega)).trans h4) (updO_at _ _ _) ((updO_ne _ _ (by omega)).trans h14)
set_option maxRecDepth 100000 in
set_option maxHeartbeats 2000000 in
theorem tn10110_0 {Q : Exit → Act → World → Prop} {t0 t1 t2 t4 t5 t6 t7 t8 t9 t10 t11 t12 t13 t14 t15 t16 t17 t18 t19 t20 t21 t22 t23 t24 t25 t26 t27 t28 t29 t30 t31 t32 t33 t34 t35 t36 t37 t38 t39 t40 t44 t45 t46 t50 t53 t54 t55 t56 t57 t58 t59 t60 t61 t62 t63 t64 t65 t66 t67 t68 t69 t70 t71 t72 t73 t74 t75 t76 t77 t78 t79 t80 t81 t82 t83 t84 t85 t86 t87 : Value} {W0 : World} {vb nl il nc ic : Nat} {na ia : Option Addr} {LN LI : List Value} {w : World} {f : Nat → Option Nat} {u41 u47 : Value} {g11 : Nat} {fl : Array Bool} {A : Act} (hfl : fl = #[true, true, true, false, false, false, true, true, true, false, true, true, false, false, false, false]) (hA : A = { tmps := (t0 :: t1 :: t2 :: .pointer (some ⟨vb, 0, none⟩) :: t4 :: t5 :: t6 :: t7 :: t8 :: t9 :: t10 :: t11 :: t12 :: t13 :: t14 :: t15 :: t16 :: t17 :: t18 :: t19 :: t20 :: t21 :: t22 :: t23 :: t24 :: t25 :: t26 :: t27 :: t28 :: t29 :: t30 :: t31 :: t32 :: t33 :: t34 :: t35 :: t36 :: t37 :: t38 :: t39 :: t40 :: u41 :: .pointer (some ⟨vb, 5, none⟩) :: .slice na nl nc :: t44 :: t45 :: t46 :: u47 :: .pointer (some ⟨vb, 4, none⟩) :: .slice ia il ic :: t50 :: .agg #[.int .i64 0, .int .i64 0, .int .i64 0, .string ⟨#[]⟩, .slice none 0 0, .slice none 0 0] :: .slice (some ⟨g11, 0, none⟩) 1 1 :: t53 :: t54 :: t55 :: t56 :: t57 :: t58 :: t59 :: t60 :: t61 :: t62 :: t63 :: t64 :: t65 :: t66 :: t67 :: t68 :: t69 :: t70 :: t71 :: t72 :: t73 :: t74 :: t75 :: t76 :: t77 :: t78 :: t79 :: t80 :: t81 :: t82 :: t83 :: t84 :: t85 :: t86 :: t87 :: []).toArray, defers := [] })
    (hS : SrcT W0 na ia nl il LN LI) (hp : ∀ p d v a w, Q (.panic p) (Act.put a d v) w → Q (.panic p) a w) (hF : FinT Q W0 vb nl il nc ic na ia LN LI t0 t1 t2 t4 t5 t6 t7 t9 t10 t11 t12 t13 t14 t15 t16 t17 t18 t19 t20 t21 t22 t23 t24 t25 t26 t27 t28 t29 t30 t31 t32 t33 t34 t35 t36 t37 t38 t39 t40 t55 t56 t57 t58 t59 t60 t61 t62 t63 t64 t65 t66 t67 t68 t69 t70 t71 t72 t73 t74 t75 t76 t77 t78 t79 t80 t81 t82 t83 t84 t85 t86 t87) (hI : InvT W0 w f ⟨#[122, 122]⟩ u41 0 [] u47 0 [] true false true true false) (h11 : f 3 = some g11) :
    wpAnyH Try.prog .any tnOps Q (fun w' => Below W0.heap.size W0 w') 8 fl A w := by
  subst hfl hA
  have hB0 := hI.1
  refine wpAnyH_ready (rs := [3, 4, 14]) (by kernel_rfl) (by simp) ?_
  refine AllReadyH.cons rfl (fun K hK => ?_) (AllReadyH.cons rfl (fun K hK => ?_) (AllReadyH.cons rfl (fun K hK => ?_) AllReadyH.nil))
  · skip
    obtain ⟨i0, hi, hz0, hz1, hz2⟩ := info_parts textInfo
    obtain ⟨⟨HL1, HL2⟩, ⟨HO1, HO2⟩, ⟨hl1, hl2⟩, hSS⟩ := id hS
    have HS := hSS _ hB0
    refine wp_append_lie w _ _ 26 rfl W0.heap.size 9 i0 _ 1 16 Try.underlying26 hi hz0 hz1 hz2 rfl (by decide) u41 0 [] rfl (hI.2.2.1 rfl).2 na nl nc LN rfl HL1 HS.1 HO1 (by unfold maxLen; omega) (by omega) hB0.size ?_
    intro v' w' hown hgr hbl
    have hI2 := hI.appN hown hgr hbl
    rw [List.nil_append, Nat.zero_add] at hI2
    refine hK.out _ _ hI2.1 (fun _ => ?_)
    exact tn10110_1 rfl rfl hS hp hF hI2 ((updO_ne _ _ (by omega)).trans h11)
  · skip
    have hI2 := hI.alloc4
    go_simp
    refine hK.out _ _ hI2.1 (fun _ => ?_)
    exact tn11110_0 rfl rfl hS hp hF hI2 (updO_at _ _ _) ((updO_ne _ _ (by omega)).trans h11)
  · skip
    have hI2 := hI.alloc14
    go_simp
    refine hK.out _ _ hI2.1 (fun _ => ?_)
    exact tn10111_0 rfl rfl hS hp hF hI2 ((updO_ne _ _ (by omega)).trans h11) (updO_at _ _ _)
set_option maxRecDepth 100000 in
set_option maxHeartbeats 2000000 in
theorem tn10101_0 {Q : Exit → Act → World → Prop} {t0 t1 t2 t4 t5 t6 t7 t9 t10 t11 t12 t13 t14 t15 t16 t17 t18 t19 t20 t21 t22 t23 t24 t25 t26 t27 t28 t29 t30 t31 t32 t33 t34 t35 t36 t37 t38 t39 t40 t44 t45 t46 t50 t52 t53 t54 t55 t56 t57 t58 t59 t60 t61 t62 t63 t64 t65 t66 t67 t68 t69 t70 t71 t72 t73 t74 t75 t76 t77 t78 t79 t80 t81 t82 t83 t84 t85 t86 t87 : Value} {W0 : World} {vb nl il nc ic : Nat} {na ia : Option Addr} {LN LI : List Value} {w : World} {f : Nat → Option Nat} {u41 u47 : Value} {g14 : Nat} {fl : Array Bool} {A : Act} (hfl : fl = #[true, true, true, false, false, false, true, true, true, false, true, false, false, false, true, false]) (hA : A = { tmps := (t0 :: t1 :: t2 :: .pointer (some ⟨vb, 0, none⟩) :: t4 :: t5 :: t6 :: t7 :: .pointer (some ⟨g14, 0, none⟩) :: t9 :: t10 :: t11 :: t12 :: t13 :: t14 :: t15 :: t16 :: t17 :: t18 :: t19 :: t20 :: t21 :: t22 :: t23 :: t24 :: t25 :: t26 :: t27 :: t28 :: t29 :: t30 :: t31 :: t32 :: t33 :: t34 :: t35 :: t36 :: t37 :: t38 :: t39 :: t40 :: u41 :: .pointer (some ⟨vb, 5, none⟩) :: .slice na nl nc :: t44 :: t45 :: t46 :: u47 :: .pointer (some ⟨vb, 4, none⟩) :: .slice ia il ic :: t50 :: .agg #[.int .i64 0, .int .i64 0, .int .i64 0, .string ⟨#[]⟩, .slice none 0 0, .slice none 0 0] :: t52 :: t53 :: t54 :: t55 :: t56 :: t57 :: t58 :: t59 :: t60 :: t61 :: t62 :: t63 :: t64 :: t65 :: t66 :: t67 :: t68 :: t69 :: t70 :: t71 :: t72 :: t73 :: t74 :: t75 :: t76 :: t77 :: t78 :: t79 :: t80 :: t81 :: t82 :: t83 :: t84 :: t85 :: t86 :: t87 :: []).toArray, defers := [] })
    (hS : SrcT W0 na ia nl il LN LI) (hp : ∀ p d v a w, Q (.panic p) (Act.put a d v) w → Q (.panic p) a w) (hF : FinT Q W0 vb nl il nc ic na ia LN LI t0 t1 t2 t4 t5 t6 t7 t9 t10 t11 t12 t13 t14 t15 t16 t17 t18 t19 t20 t21 t22 t23 t24 t25 t26 t27 t28 t29 t30 t31 t32 t33 t34 t35 t36 t37 t38 t39 t40 t55 t56 t57 t58 t59 t60 t61 t62 t63 t64 t65 t66 t67 t68 t69 t70 t71 t72 t73 t74 t75 t76 t77 t78 t79 t80 t81 t82 t83 t84 t85 t86 t87) (hI : InvT W0 w f ⟨#[122, 122]⟩ u41 0 [] u47 0 [] true false true false true) (h14 : f 4 = some g14) :
    wpAnyH Try.prog .any tnOps Q (fun w' => Below W0.heap.size W0 w') 8 fl A w := by
  subst hfl hA
  have hB0 := hI.1
  refine wpAnyH_ready (rs := [3, 4, 11]) (by kernel_rfl) (by simp) ?_
  refine AllReadyH.cons rfl (fun K hK => ?_) (AllReadyH.cons rfl (fun K hK => ?_) (AllReadyH.cons rfl (fun K hK => ?_) AllReadyH.nil))
  · skip
    obtain ⟨i0, hi, hz0, hz1, hz2⟩ := info_parts textInfo
    obtain ⟨⟨HL1, HL2⟩, ⟨HO1, HO2⟩, ⟨hl1, hl2⟩, hSS⟩ := id hS
    have HS := hSS _ hB0
    refine wp_append_lie w _ _ 26 rfl W0.heap.size 9 i0 _ 1 16 Try.underlying26 hi hz0 hz1 hz2 rfl (by decide) u41 0 [] rfl (hI.2.2.1 rfl).2 na nl nc LN rfl HL1 HS.1 HO1 (by unfold maxLen; omega) (by omega) hB0.size ?_
    intro v' w' hown hgr hbl
    have hI2 := hI.appN hown hgr hbl
    rw [List.nil_append, Nat.zero_add] at hI2
    refine hK.out _ _ hI2.1 (fun _ => ?_)
    exact tn10101_1 rfl rfl hS hp hF hI2 ((updO_ne _ _ (by omega)).trans h14)
  · skip
    have hI2 := hI.alloc4
    go_simp
    refine hK.out _ _ hI2.1 (fun _ => ?_)
    exact tn11101_0 rfl rfl hS hp hF hI2 (updO_at _ _ _) ((updO_ne _ _ (by omega)).trans h14)
  · skip
    have hI2 := hI.alloc11
    go_simp
    refine hK.out _ _ hI2.1 (fun _ => ?_)
    exact tn10111_0 rfl rfl hS hp hF hI2 (updO_at _ _ _) ((updO_ne _ _ (by omega)).trans h14)
set_option maxRecDepth 100000 in
set_option maxHeartbeats 2000000 in
theorem tn10011_0 {Q : Exit → Act → World → Prop} {t0 t1 t2 t4 t5 t6 t7 t9 t10 t11 t12 t13 t14 t15 t16 t17 t18 t19 t20 t21 t22 t23 t24 t25 t26 t27 t28 t29 t30 t31 t32 t33 t34 t35 t36 t37 t38 t39 t40 t44 t45 t46 t47 t50 t53 t54 t55 t56 t57 t58 t59 t60 t61 t62 t63 t64 t65 t66 t67 t68 t69 t70 t71 t72 t73 t74 t75 t76 t77 t78 t79 t80 t81 t82 t83 t84 t85 t86 t87 : Value} {W0 : World} {vb nl il nc ic : Nat} {na ia : Option Addr} {LN LI : List Value} {w : World} {f : Nat → Option Nat} {u41 uI : Value} {g11 g14 : Nat} {fl : Array Bool} {A : Act} (hfl : fl = #[true, true, true, false, false, false, false, true, true, false, true, true, false, false, true, false]) (hA : A = { tmps := (t0 :: t1 :: t2 :: .pointer (some ⟨vb, 0, none⟩) :: t4 :: t5 :: t6 :: t7 :: .pointer (some ⟨g14, 0, none⟩) :: t9 :: t10 :: t11 :: t12 :: t13 :: t14 :: t15 :: t16 :: t17 :: t18 :: t19 :: t20 :: t21 :: t22 :: t23 :: t24 :: t25 :: t26 :: t27 :: t28 :: t29 :: t30 :: t31 :: t32 :: t33 :: t34 :: t35 :: t36 :: t37 :: t38 :: t39 :: t40 :: u41 :: .pointer (some ⟨vb, 5, none⟩) :: .slice na nl nc :: t44 :: t45 :: t46 :: t47 :: .pointer (some ⟨vb, 4, none⟩) :: .slice ia il ic :: t50 :: .agg #[.int .i64 0, .int .i64 0, .int .i64 0, .string ⟨#[]⟩, .slice none 0 0, .slice none 0 0] :: .slice (some ⟨g11, 0, none⟩) 1 1 :: t53 :: t54 :: t55 :: t56 :: t57 :: t58 :: t59 :: t60 :: t61 :: t62 :: t63 :: t64 :: t65 :: t66 :: t67 :: t68 :: t69 :: t70 :: t71 :: t72 :: t73 :: t74 :: t75 :: t76 :: t77 :: t78 :: t79 :: t80 :: t81 :: t82 :: t83 :: t84 :: t85 :: t86 :: t87 :: []).toArray, defers := [] })
    (hS : SrcT W0 na ia nl il LN LI) (hp : ∀ p d v a w, Q (.panic p) (Act.put a d v) w → Q (.panic p) a w) (hF : FinT Q W0 vb nl il nc ic na ia LN LI t0 t1 t2 t4 t5 t6 t7 t9 t10 t11 t12 t13 t14 t15 t16 t17 t18 t19 t20 t21 t22 t23 t24 t25 t26 t27 t28 t29 t30 t31 t32 t33 t34 t35 t36 t37 t38 t39 t40 t55 t56 t57 t58 t59 t60 t61 t62 t63 t64 t65 t66 t67 t68 t69 t70 t71 t72 t73 t74 t75 t76 t77 t78 t79 t80 t81 t82 t83 t84 t85 t86 t87) (hI : InvT W0 w f ⟨#[122, 122]⟩ u41 0 [] uI 0 [] true false false true true) (h11 : f 3 = some g11) (h14 : f 4 = some g14) :
    wpAnyH Try.prog .any tnOps Q (fun w' => Below W0.heap.size W0 w') 8 fl A w := by
  subst hfl hA
  have hB0 := hI.1
  refine wpAnyH_ready (rs := [3, 4, 6]) (by kernel_rfl) (by simp) ?_
  refine AllReadyH.cons rfl (fun K hK => ?_) (AllReadyH.cons rfl (fun K hK => ?_) (AllReadyH.cons rfl (fun K hK => ?_) AllReadyH.nil))
  · skip
    obtain ⟨i0, hi, hz0, hz1, hz2⟩ := info_parts textInfo
    obtain ⟨⟨HL1, HL2⟩, ⟨HO1, HO2⟩, ⟨hl1, hl2⟩, hSS⟩ := id hS
    have HS := hSS _ hB0
    refine wp_append_lie w _ _ 26 rfl W0.heap.size 9 i0 _ 1 16 Try.underlying26 hi hz0 hz1 hz2 rfl (by decide) u41 0 [] rfl (hI.2.2.1 rfl).2 na nl nc LN rfl HL1 HS.1 HO1 (by unfold maxLen; omega) (by omega) hB0.size ?_
    intro v' w' hown hgr hbl
    have hI2 := hI.appN hown hgr hbl
    rw [List.nil_append, Nat.zero_add] at hI2
    refine hK.out _ _ hI2.1 (fun _ => ?_)
    exact tn10011_1 rfl rfl hS hp hF hI2 ((updO_ne _ _ (by omega)).trans h11) ((updO_ne _ _ (by omega)).trans h14)
  · skip
    have hI2 := hI.alloc4
    go_simp
    refine hK.out _ _ hI2.1 (fun _ => ?_)
    exact tn11011_0 rfl rfl hS hp hF hI2 (updO_at _ _ _) ((updO_ne _ _ (by omega)).trans h11) ((updO_ne _ _ (by omega)).trans h14)
  · skip
    have hI2 := hI.alloc6
    go_simp
    refine hK.out _ _ hI2.1 (fun _ => ?_)
    exact tn10111_0 rfl rfl hS hp hF hI2 ((updO_ne _ _ (by omega)).trans h11) ((updO_ne _ _ (by omega)).trans h14)
set_option maxRecDepth 100000 in
set_option maxHeartbeats 2000000 in
theorem tn01110_0 {Q : Exit → Act → World → Prop} {t0 t1 t2 t4 t5 t6 t7 t8 t9 t10 t11 t12 t13 t14 t15 t16 t17 t18 t19 t20 t21 t22 t23 t24 t25 t26 t27 t28 t29 t30 t31 t32 t33 t34 t35 t36 t37 t38 t39 t40 t41 t44 t46 t50 t53 t54 t55 t56 t57 t58 t59 t60 t61 t62 t63 t64 t65 t66 t67 t68 t69 t70 t71 t72 t73 t74 t75 t76 t77 t78 t79 t80 t81 t82 t83 t84 t85 t86 t87 : Value} {W0 : World} {vb nl il nc ic : Nat} {na ia : Option Addr} {LN LI : List Value} {w : World} {f : Nat → Option Nat} {u47 uN : Value} {g4 g11 : Nat} {fl : Array Bool} {A : Act} (hfl : fl = #[false, true, true, false, true, false, true, true, true, false, true, true, false, false, false, false]) (hA : A = { tmps := (t0 :: t1 :: t2 :: .pointer (some ⟨vb, 0, none⟩) :: t4 :: t5 :: t6 :: t7 :: t8 :: t9 :: t10 :: t11 :: t12 :: t13 :: t14 :: t15 :: t16 :: t17 :: t18 :: t19 :: t20 :: t21 :: t22 :: t23 :: t24 :: t25 :: t26 :: t27 :: t28 :: t29 :: t30 :: t31 :: t32 :: t33 :: t34 :: t35 :: t36 :: t37 :: t38 :: t39 :: t40 :: t41 :: .pointer (some ⟨vb, 5, none⟩) :: .slice na nl nc :: t44 :: .slice (some ⟨g4, 0, none⟩) 1 1 :: t46 :: u47 :: .pointer (some ⟨vb, 4, none⟩) :: .slice ia il ic :: t50 :: .agg #[.int .i64 0, .int .i64 0, .int .i64 0, .string ⟨#[]⟩, .slice none 0 0, .slice none 0 0] :: .slice (some ⟨g11, 0, none⟩) 1 1 :: t53 :: t54 :: t55 :: t56 :: t57 :: t58 :: t59 :: t60 :: t61 :: t62 :: t63 :: t64 :: t65 :: t66 :: t67 :: t68 :: t69 :: t70 :: t71 :: t72 :: t73 :: t74 :: t75 :: t76 :: t77 :: t78 :: t79 :: t80 :: t81 :: t82 :: t83 :: t84 :: t85 :: t86 :: t87 :: []).toArray, defers := [] })
    (hS : SrcT W0 na ia nl il LN LI) (hp : ∀ p d v a w, Q (.panic p) (Act.put a d v) w → Q (.panic p) a w) (hF : FinT Q W0 vb nl il nc ic na ia LN LI t0 t1 t2 t4 t5 t6 t7 t9 t10 t11 t12 t13 t14 t15 t16 t17 t18 t19 t20 t21 t22 t23 t24 t25 t26 t27 t28 t29 t30 t31 t32 t33 t34 t35 t36 t37 t38 t39 t40 t55 t56 t57 t58 t59 t60 t61 t62 t63 t64 t65 t66 t67 t68 t69 t70 t71 t72 t73 t74 t75 t76 t77 t78 t79 t80 t81 t82 t83 t84 t85 t86 t87) (hI : InvT W0 w f ⟨#[122, 122]⟩ uN 0 [] u47 0 [] false true true true false) (h4 : f 1 = some g4) (h11 : f 3 = some g11) :
    wpAnyH Try.prog .any tnOps Q (fun w' => Below W0.heap.size W0 w') 8 fl A w := by
  subst hfl hA
  have hB0 := hI.1
  refine wpAnyH_ready (rs := [0, 14]) (by kernel_rfl) (by simp) ?_
  refine AllReadyH.cons rfl (fun K hK => ?_) (AllReadyH.cons rfl (fun K hK => ?_) AllReadyH.nil)
  · skip
    have hI2 := hI.alloc0
    go_simp
    refine hK.out _ _ hI2.1 (fun _ => ?_)
    exact tn11110_0 rfl rfl hS hp hF hI2 ((updO_ne _ _ (by omega)).trans h4) ((updO_ne _ _ (by omega)).trans h11)
  · skip
    have hI2 := hI.alloc14
    go_simp
    refine hK.out _ _ hI2.1 (fun _ => ?_)
    exact tn01111_0 rfl rfl hS hp hF hI2 ((updO_ne _ _ (by omega)).trans h4) ((updO_ne _ _ (by omega)).trans h11) (updO_at _ _ _)
set_option maxRecDepth 100000 in
set_option maxHeartbeats 2000000 in
theorem tn01101_0 {Q : Exit → Act → World → Prop} {t0 t1 t2 t4 t5 t6 t7 t9 t10 t11 t12 t13 t14 t15 t16 t17 t18 t19 t20 t21 t22 t23 t24 t25 t26 t27 t28 t29 t30 t31 t32 t33 t34 t35 t36 t37 t38 t39 t40 t41 t44 t46 t50 t52 t53 t54 t55 t56 t57 t58 t59 t60 t61 t62 t63 t64 t65 t66 t67 t68 t69 t70 t71 t72 t73 t74 t75 t76 t77 t78 t79 t80 t81 t82 t83 t84 t85 t86 t87 : Value} {W0 : World} {vb nl il nc ic : Nat} {na ia : Option Addr} {LN LI : List Value} {w : World} {f : Nat → Option Nat} {u47 uN : Value} {g4 g14 : Nat} {fl : Array Bool} {A : Act} (hfl : fl = #[false, true, true, false, true, false, true, true, true, false, true, false, false, false, true, false]) (hA : A = { tmps := (t0 :: t1 :: t2 :: .pointer (some ⟨vb, 0, none⟩) :: t4 :: t5 :: t6 :: t7 :: .pointer (some ⟨g14, 0, none⟩) :: t9 :: t10 :: t11 :: t12 :: t13 :: t14 :: t15 :: t16 :: t17 :: t18 :: t19 :: t20 :: t21 :: t22 :: t23 :: t24 :: t25 :: t26 :: t27 :: t28 :: t29 :: t30 :: t31 :: t32 :: t33 :: t34 :: t35 :: t36 :: t37 :: t38 :: t39 :: t40 :: t41 :: .pointer (some ⟨vb, 5, none⟩) :: .slice na nl nc :: t44 :: .slice (some ⟨g4, 0, none⟩) 1 1 :: t46 :: u47 :: .pointer (some ⟨vb, 4, none⟩) :: .slice ia il ic :: t50 :: .agg #[.int .i64 0, .int .i64 0, .int .i64 0, .string ⟨#[]⟩, .slice none 0 0, .slice none 0 0] :: t52 :: t53 :: t54 :: t55 :: t56 :: t57 :: t58 :: t59 :: t60 :: t61 :: t62 :: t63 :: t64 :: t65 :: t66 :: t67 :: t68 :: t69 :: t70 :: t71 :: t72 :: t73 :: t74 :: t75 :: t76 :: t77 :: t78 :: t79 :: t80 :: t81 :: t82 :: t83 :: t84 :: t85 :: t86 :: t87 :: []).toArray, defers := [] })
    (hS : SrcT W0 na ia nl il LN LI) (hp : ∀ p d v a w, Q (.panic p) (Act.put a d v) w → Q (.panic p) a w) (hF : FinT Q W0 vb nl il nc ic na ia LN LI t0 t1 t2 t4 t5 t6 t7 t9 t10 t11 t12 t13 t14 t15 t16 t17 t18 t19 t20 t21 t22 t23 t24 t25 t26 t27 t28 t29 t30 t31 t32 t33 t34 t35 t36 t37 t38 t39 t40 t55 t56 t57 t58 t59 t60 t61 t62 t63 t64 t65 t66 t67 t68 t69 t70 t71 t72 t73 t74 t75 t76 t77 t78 t79 t80 t81 t82 t83 t84 t85 t86 t87) (hI : InvT W0 w f ⟨#[122, 122]⟩ uN 0 [] u47 0 [] false true true false true) (h4 : f 1 = some g4) (h14 : f 4 = some g14) :
    wpAnyH Try.prog .any tnOps Q (fun w' => Below W0.heap.size W0 w') 8 fl A w := by
  subst hfl hA
  have hB0 := hI.1
  refine wpAnyH_ready (rs := [0, 11]) (by kernel_rfl) (by simp) ?_
  refine AllReadyH.cons rfl (fun K hK => ?_) (AllReadyH.cons rfl (fun K hK => ?_) AllReadyH.nil)
  · skip
    have hI2 := hI.alloc0
    go_simp
    refine hK.out _ _ hI2.1 (fun _ => ?_)
    exact tn11101_0 rfl rfl hS hp hF hI2 ((updO_ne _ _ (by omega)).trans h4) ((updO_ne _ _ (by omega)).trans h14)
  · skip
    have hI2 := hI.alloc11
    go_simp
    refine hK.out _ _ hI2.1 (fun _ => ?_)
    exact tn01111_0 rfl rfl hS hp hF hI2 ((updO_ne _ _ (by omega)).trans h4) (updO_at _ _ _) ((updO_ne _ _ (by omega)).trans h14)
set_option maxRecDepth 100000 in
set_option maxHeartbeats 2000000 in
theorem tn01011_0 {Q : Exit → Act → World → Prop} {t0 t1 t2 t4 t5 t6 t7 t9 t10 t11 t12 t13 t14 t15 t16 t17 t18 t19 t20 t21 t22 t23 t24 t25 t26 t27 t28 t29 t30 t31 t32 t33 t34 t35 t36 t37 t38 t39 t40 t41 t44 t46 t47 t50 t53 t54 t55 t56 t57 t58 t59 t60 t61 t62 t63 t64 t65 t66 t67 t68 t69 t70 t71 t72 t73 t74 t75 t76 t77 t78 t79 t80 t81 t82 t83 t84 t85 t86 t87 : Value} {W0 : World} {vb nl il nc ic : Nat} {na ia : Option Addr} {LN LI : List Value} {w : World} {f : Nat → Option Nat} {uN uI : Value} {g4 g11 g14 : Nat} {fl : Array Bool} {A : Act} (hfl : fl = #[false, true, true, false, true, false, false, true, true, false, true, true, false, false, true, false]) (hA : A = { tmps := (t0 :: t1 :: t2 :: .pointer (some ⟨vb, 0, none⟩) :: t4 :: t5 :: t6 :: t7 :: .pointer (some ⟨g14, 0, none⟩) :: t9 :: t10 :: t11 :: t12 :: t13 :: t14 :: t15 :: t16 :: t17 :: t18 :: t19 :: t20 :: t21 :: t22 :: t23 :: t24 :: t25 :: t26 :: t27 :: t28 :: t29 :: t30 :: t31 :: t32 :: t33 :: t34 :: t35 :: t36 :: t37 :: t38 :: t39 :: t40 :: t41 :: .pointer (some ⟨vb, 5, none⟩) :: .slice na nl nc :: t44 :: .slice (some ⟨g4, 0, none⟩) 1 1 :: t46 :: t47 :: .pointer (some ⟨vb, 4, none⟩) :: .slice ia il ic :: t50 :: .agg #[.int .i64 0, .int .i64 0, .int .i64 0, .string ⟨#[]⟩, .slice none 0 0, .slice none 0 0] :: .slice (some ⟨g11, 0, none⟩) 1 1 :: t53 :: t54 :: t55 :: t56 :: t57 :: t58 :: t59 :: t60 :: t61 :: t62 :: t63 :: t64 :: t65 :: t66 :: t67 :: t68 :: t69 :: t70 :: t71 :: t72 :: t73 :: t74 :: t75 :: t76 :: t77 :: t78 :: t79 :: t80 :: t81 :: t82 :: t83 :: t84 :: t85 :: t86 :: t87 :: []).toArray, defers := [] })
    (hS : SrcT W0 na ia nl il LN LI) (hp : ∀ p d v a w, Q (.panic p) (Act.put a d v) w → Q (.panic p) a w) (hF : FinT Q W0 vb nl il nc ic na ia LN LI t0 t1 t2 t4 t5 t6 t7 t9 t10 t11 t12 t13 t14 t15 t16 t17 t18 t19 t20 t21 t22 t23 t24 t25 t26 t27 t28 t29 t30 t31 t32 t33 t34 t35 t36 t37 t38 t39 t40 t55 t56 t57 t58 t59 t60 t61 t62 t63 t64 t65 t66 t67 t68 t69 t70 t71 t72 t73 t74 t75 t76 t77 t78 t79 t80 t81 t82 t83 t84 t85 t86 t87) (hI : InvT W0 w f ⟨#[122, 122]⟩ uN 0 [] uI 0 [] false true false true true) (h4 : f 1 = some g4) (h11 : f 3 = some g11) (h14 : f 4 = some g14) :
    wpAnyH Try.prog .any tnOps Q (fun w' => Below W0.heap.size W0 w') 8 fl A w := by
  subst hfl hA
  have hB0 := hI.1
  refine wpAnyH_ready (rs := [0, 6]) (by kernel_rfl) (by simp) ?_
  refine AllReadyH.cons rfl (fun K hK => ?_) (AllReadyH.cons rfl (fun K hK => ?_) AllReadyH.nil)
  · skip
    have hI2 := hI.alloc0
    go_simp
    refine hK.out _ _ hI2.1 (fun _ => ?_)
    exact tn11011_0 rfl rfl hS hp hF hI2 ((updO_ne _ _ (by omega)).trans h4) ((updO_ne _ _ (by omega)).trans h11) ((updO_ne _ _ (by omega)).trans h14)
  · skip
    have hI2 := hI.alloc6
    go_simp
    refine hK.out _ _ hI2.1 (fun _ => ?_)
    exact tn01111_0 rfl rfl hS hp hF hI2 ((updO_ne _ _ (by omega)).trans h4) ((updO_ne _ _ (by omega)).trans h11) ((updO_ne _ _ (by omega)).trans h14)
set_option maxRecDepth 100000 in
set_option maxHeartbeats 2000000 in
theorem tn00111_0 {Q : Exit → Act → World → Prop} {t0 t1 t2 t4 t5 t6 t7 t9 t10 t11 t12 t13 t14 t15 t16 t17 t18 t19 t20 t21 t22 t23 t24 t25 t26 t27 t28 t29 t30 t31 t32 t33 t34 t35 t36 t37 t38 t39 t40 t41 t44 t45 t46 t50 t53 t54 t55 t56 t57 t58 t59 t60 t61 t62 t63 t64 t65 t66 t67 t68 t69 t70 t71 t72 t73 t74 t75 t76 t77 t78 t79 t80 t81 t82 t83 t84 t85 t86 t87 : Value} {W0 : World} {vb nl il nc ic : Nat} {na ia : Option Addr} {LN LI : List Value} {w : World} {f : Nat → Option Nat} {u47 uN : Value} {g11 g14 : Nat} {fl : Array Bool} {A : Act} (hfl : fl = #[false, true, true, false, false, false, true, true, true, false, true, true, false, false, true, false]) (hA : A = { tmps := (t0 :: t1 :: t2 :: .pointer (some ⟨vb, 0, none⟩) :: t4 :: t5 :: t6 :: t7 :: .pointer (some ⟨g14, 0, none⟩) :: t9 :: t10 :: t11 :: t12 :: t13 :: t14 :: t15 :: t16 :: t17 :: t18 :: t19 :: t20 :: t21 :: t22 :: t23 :: t24 :: t25 :: t26 :: t27 :: t28 :: t29 :: t30 :: t31 :: t32 :: t33 :: t34 :: t35 :: t36 :: t37 :: t38 :: t39 :: t40 :: t41 :: .pointer (some ⟨vb, 5, none⟩) :: .slice na nl nc :: t44 :: t45 :: t46 :: u47 :: .pointer (some ⟨vb, 4, none⟩) :: .slice ia il ic :: t50 :: .agg #[.int .i64 0, .int .i64 0, .int .i64 0, .string ⟨#[]⟩, .slice none 0 0, .slice none 0 0] :: .slice (some ⟨g11, 0, none⟩) 1 1 :: t53 :: t54 :: t55 :: t56 :: t57 :: t58 :: t59 :: t60 :: t61 :: t62 :: t63 :: t64 :: t65 :: t66 :: t67 :: t68 :: t69 :: t70 :: t71 :: t72 :: t73 :: t74 :: t75 :: t76 :: t77 :: t78 :: t79 :: t80 :: t81 :: t82 :: t83 :: t84 :: t85 :: t86 :: t87 :: []).toArray, defers := [] })
    (hS : SrcT W0 na ia nl il LN LI) (hp : ∀ p d v a w, Q (.panic p) (Act.put a d v) w → Q (.panic p) a w) (hF : FinT Q W0 vb nl il nc ic na ia LN LI t0 t1 t2 t4 t5 t6 t7 t9 t10 t11 t12 t13 t14 t15 t16 t17 t18 t19 t20 t21 t22 t23 t24 t25 t26 t27 t28 t29 t30 t31 t32 t33 t34 t35 t36 t37 t38 t39 t40 t55 t56 t57 t58 t59 t60 t61 t62 t63 t64 t65 t66 t67 t68 t69 t70 t71 t72 t73 t74 t75 t76 t77 t78 t79 t80 t81 t82 t83 t84 t85 t86 t87) (hI : InvT W0 w f ⟨#[122, 122]⟩ uN 0 [] u47 0 [] false false true true true) (h11 : f 3 = some g11) (h14 : f 4 = some g14) :
    wpAnyH Try.prog .any tnOps Q (fun w' => Below W0.heap.size W0 w') 8 fl A w := by
  subst hfl hA
  have hB0 := hI.1
  refine wpAnyH_ready (rs := [0, 4]) (by kernel_rfl) (by simp) ?_
  refine AllReadyH.cons rfl (fun K hK => ?_) (AllReadyH.cons rfl (fun K hK => ?_) AllReadyH.nil)
  · skip
    have hI2 := hI.alloc0
    go_simp
    refine hK.out _ _ hI2.1 (fun _ => ?_)
    exact tn10111_0 rfl rfl hS hp hF hI2 ((updO_ne _ _ (by omega)).trans h11) ((updO_ne _ _ (by omega)).trans h14)
  · skip
    have hI2 := hI.alloc4
    go_simp
    refine hK.out _ _ hI2.1 (fun _ => ?_)
    exact tn01111_0 rfl rfl hS hp hF hI2 (updO_at _ _ _) ((updO_ne _ _ (by omega)).trans h11) ((updO_ne _ _ (by omega)).trans h14)
set_option maxRecDepth 100000 in
set_option maxHeartbeats 2000000 in
theorem tn11000_0 {Q : Exit → Act → World → Prop} {t0 t1 t2 t4 t5 t6 t7 t8 t9 t10 t11 t12 t13 t14 t15 t16 t17 t18 t19 t20 t21 t22 t23 t24 t25 t26 t27 t28 t29 t30 t31 t32 t33 t34 t35 t36 t37 t38 t39 t40 t44 t46 t47 t50 t52 t53 t54 t55 t56 t57 t58 t59 t60 t61 t62 t63 t64 t65 t66 t67 t68 t69 t70 t71 t72 t73 t74 t75 t76 t77 t78 t79 t80 t81 t82 t83 t84 t85 t86 t87 : Value} {W0 : World} {vb nl il nc ic : Nat} {na ia : Option Addr} {LN LI : List Value} {w : World} {f : Nat → Option Nat} {u41 uI : Value} {g4 : Nat} {fl : Array Bool} {A : Act} (hfl : fl = #[true, true, true, false, true, false, false, true, true, false, true, false, false, false, false, false]) (hA : A = { tmps := (t0 :: t1 :: t2 :: .pointer (some ⟨vb, 0, none⟩) :: t4 :: t5 :: t6 :: t7 :: t8 :: t9 :: t10 :: t11 :: t12 :: t13 :: t14 :: t15 :: t16 :: t17 :: t18 :: t19 :: t20 :: t21 :: t22 :: t23 :: t24 :: t25 :: t26 :: t27 :: t28 :: t29 :: t30 :: t31 :: t32 :: t33 :: t34 :: t35 :: t36 :: t37 :: t38 :: t39 :: t40 :: u41 :: .pointer (some ⟨vb, 5, none⟩) :: .slice na nl nc :: t44 :: .slice (some ⟨g4, 0, none⟩) 1 1 :: t46 :: t47 :: .pointer (some ⟨vb, 4, none⟩) :: .slice ia il ic :: t50 :: .agg #[.int .i64 0, .int .i64 0, .int .i64 0, .string ⟨#[]⟩, .slice none 0 0, .slice none 0 0] :: t52 :: t53 :: t54 :: t55 :: t56 :: t57 :: t58 :: t59 :: t60 :: t61 :: t62 :: t63 :: t64 :: t65 :: t66 :: t67 :: t68 :: t69 :: t70 :: t71 :: t72 :: t73 :: t74 :: t75 :: t76 :: t77 :: t78 :: t79 :: t80 :: t81 :: t82 :: t83 :: t84 :: t85 :: t86 :: t87 :: []).toArray, defers := [] })
    (hS : SrcT W0 na ia nl il LN LI) (hp : ∀ p d v a w, Q (.panic p) (Act.put a d v) w → Q (.panic p) a w) (hF : FinT Q W0 vb nl il nc ic na ia LN LI t0 t1 t2 t4 t5 t6 t7 t9 t10 t11 t12 t13 t14 t15 t16 t17 t18 t19 t20 t21 t22 t23 t24 t25 t26 t27 t28 t29 t30 t31 t32 t33 t34 t35 t36 t37 t38 t39 t40 t55 t56 t57 t58 t59 t60 t61 t62 t63 t64 t65 t66 t67 t68 t69 t70 t71 t72 t73 t74 t75 t76 t77 t78 t79 t80 t81 t82 t83 t84 t85 t86 t87) (hI : InvT W0 w f ⟨#[122, 122]⟩ u41 0 [] uI 0 [] true true false false false) (h4 : f 1 = some g4) :
    wpAnyH Try.prog .any tnOps Q (fun w' => Below W0.heap.size W0 w') 9 fl A w := by
  subst hfl hA
  have hB0 := hI.1
  refine wpAnyH_ready (rs := [3, 6, 11, 14]) (by kernel_rfl) (by simp) ?_
  refine AllReadyH.cons rfl (fun K hK => ?_) (AllReadyH.cons rfl (fun K hK => ?_) (AllReadyH.cons rfl (fun K hK => ?_) (AllReadyH.cons rfl (fun K hK => ?_) AllReadyH.nil)))
  · skip
    obtain ⟨i0, hi, hz0, hz1, hz2⟩ := info_parts textInfo
    obtain ⟨⟨HL1, HL2⟩, ⟨HO1, HO2⟩, ⟨hl1, hl2⟩, hSS⟩ := id hS
    have HS := hSS _ hB0
    refine wp_append_lie w _ _ 26 rfl W0.heap.size 9 i0 _ 1 16 Try.underlying26 hi hz0 hz1 hz2 rfl (by decide) u41 0 [] rfl (hI.2.2.1 rfl).2 na nl nc LN rfl HL1 HS.1 HO1 (by unfold maxLen; omega) (by omega) hB0.size ?_
    intro v' w' hown hgr hbl
    have hI2 := hI.appN hown hgr hbl
    rw [List.nil_append, Nat.zero_add] at hI2
    refine hK.out _ _ hI2.1 (fun _ => ?_)
    exact tn11000_1 rfl rfl hS hp hF hI2 ((updO_ne _ _ (by omega)).trans h4)
  · skip
    have hI2 := hI.alloc6
    go_simp
    refine hK.out _ _ hI2.1 (fun _ => ?_)
    exact tn11100_0 rfl rfl hS hp hF hI2 ((updO_ne _ _ (by omega)).trans h4)
  · skip
    have hI2 := hI.alloc11
    go_simp
    refine hK.out _ _ hI2.1 (fun _ => ?_)
    exact tn11010_0 rfl rfl hS hp hF hI2 ((updO_ne _ _ (by omega)).trans h4) (updO_at _ _ _)
  · skip
    have hI2 := hI.alloc14
    go_simp
    refine hK.out _ _ hI2.1 (fun _ => ?_)
    exact tn11001_0 rfl rfl hS hp hF hI2 ((updO_ne _ _ (by omega)).trans h4) (updO_at _ _ _)
set_option maxRecDepth 100000 in
set_option maxHeartbeats 2000000 in
theorem tn10100_0 {Q : Exit → Act → World → Prop} {t0 t1 t2 t4 t5 t6 t7 t8 t9 t10 t11 t12 t13 t14 t15 t16 t17 t18 t19 t20 t21 t22 t23 t24 t25 t26 t27 t28 t29 t30 t31 t32 t33 t34 t35 t36 t37 t38 t39 t40 t44 t45 t46 t50 t52 t53 t54 t55 t56 t57 t58 t59 t60 t61 t62 t63 t64 t65 t66 t67 t68 t69 t70 t71 t72 t73 t74 t75 t76 t77 t78 t79 t80 t81 t82 t83 t84 t85 t86 t87 : Value} {W0 : World} {vb nl il nc ic : Nat} {na ia : Option Addr} {LN LI : List Value} {w : World} {f : Nat → Option Nat} {u41 u47 : Value} {fl : Array Bool} {A : Act} (hfl : fl = #[true, true, true, false, false, false, true, true, true, false, true, false, false, false, false, false]) (hA : A = { tmps := (t0 :: t1 :: t2 :: .pointer (some ⟨vb, 0, none⟩) :: t4 :: t5 :: t6 :: t7 :: t8 :: t9 :: t10 :: t11 :: t12 :: t13 :: t14 :: t15 :: t16 :: t17 :: t18 :: t19 :: t20 :: t21 :: t22 :: t23 :: t24 :: t25 :: t26 :: t27 :: t28 :: t29 :: t30 :: t31 :: t32 :: t33 :: t34 :: t35 :: t36 :: t37 :: t38 :: t39 :: t40 :: u41 :: .pointer (some ⟨vb, 5, none⟩) :: .slice na nl nc :: t44 :: t45 :: t46 :: u47 :: .pointer (some ⟨vb, 4, none⟩) :: .slice ia il ic :: t50 :: .agg #[.int .i64 0, .int .i64 0, .int .i64 0, .string ⟨#[]⟩, .slice none 0 0, .slice none 0 0] :: t52 :: t53 :: t54 :: t55 :: t56 :: t57 :: t58 :: t59 :: t60 :: t61 :: t62 :: t63 :: t64 :: t65 :: t66 :: t67 :: t68 :: t69 :: t70 :: t71 :: t72 :: t73 :: t74 :: t75 :: t76 :: t77 :: t78 :: t79 :: t80 :: t81 :: t82 :: t83 :: t84 :: t85 :: t86 :: t87 :: []).toArray, defers := [] })
    (hS : SrcT W0 na ia nl il LN LI) (hp : ∀ p d v a w, Q (.panic p) (Act.put a d v) w → Q (.panic p) a w) (hF : FinT Q W0 vb nl il nc ic na ia LN LI t0 t1 t2 t4 t5 t6 t7 t9 t10 t11 t12 t13 t14 t15 t16 t17 t18 t19 t20 t21 t22 t23 t24 t25 t26 t27 t28 t29 t30 t31 t32 t33 t34 t35 t36 t37 t38 t39 t40 t55 t56 t57 t58 t59 t60 t61 t62 t63 t64 t65 t66 t67 t68 t69 t70 t71 t72 t73 t74 t75 t76 t77 t78 t79 t80 t81 t82 t83 t84 t85 t86 t87) (hI : InvT W0 w f ⟨#[122, 122]⟩ u41 0 [] u47 0 [] true false true false false) :
    wpAnyH Try.prog .any tnOps Q (fun w' => Below W0.heap.size W0 w') 9 fl A w := by
  subst hfl hA
  have hB0 := hI.1
  refine wpAnyH_ready (rs := [3, 4, 11, 14]) (by kernel_rfl) (by simp) ?_
  refine AllReadyH.cons rfl (fun K hK => ?_) (AllReadyH.cons rfl (fun K hK => ?_) (AllReadyH.cons rfl (fun K hK => ?_) (AllReadyH.cons rfl (fun K hK => ?_) AllReadyH.nil)))
  · skip
    obtain ⟨i0, hi, hz0, hz1, hz2⟩ := info_parts textInfo
    obtain ⟨⟨HL1, HL2⟩, ⟨HO1, HO2⟩, ⟨hl1, hl2⟩, hSS⟩ := id hS
    have HS := hSS _ hB0
    refine wp_append_lie w _ _ 26 rfl W0.heap.size 9 i0 _ 1 16 Try.underlying26 hi hz0 hz1 hz2 rfl (by decide) u41 0 [] rfl (hI.2.2.1 rfl).2 na nl nc LN rfl HL1 HS.1 HO1 (by unfold maxLen; omega) (by omega) hB0.size ?_
    intro v' w' hown hgr hbl
    have hI2 := hI.appN hown hgr hbl
    rw [List.nil_append, Nat.zero_add] at hI2
    refine hK.out _ _ hI2.1 (fun _ => ?_)
    exact tn10100_1 rfl rfl hS hp hF hI2
  · skip
    have hI2 := hI.alloc4
    go_simp
    refine hK.out _ _ hI2.1 (fun _ => ?_)
    exact tn11100_0 rfl rfl hS hp hF hI2 (updO_at _ _ _)
  · skip
    have hI2 := hI.alloc11
    go_simp
    refine hK.out _ _ hI2.1 (fun _ => ?_)
    exact tn10110_0 rfl rfl hS hp hF hI2 (updO_at _ _ _)
  · skip
    have hI2 := hI.alloc14
    go_simp
    refine hK.out _ _ hI2.1 (fun _ => ?_)
    exact tn10101_0 rfl rfl hS hp hF hI2 (updO_at _ _ _)
set_option maxRecDepth 100000 in
set_option maxHeartbeats 2000000 in
theorem tn10010_0 {Q : Exit → Act → World → Prop} {t0 t1 t2 t4 t5 t6 t7 t8 t9 t10 t11 t12 t13 t14 t15 t16 t17 t18 t19 t20 t21 t22 t23 t24 t25 t26 t27 t28 t29 t30 t31 t32 t33 t34 t35 t36 t37 t38 t39 t40 t44 t45 t46 t47 t50 t53 t54 t55 t56 t57 t58 t59 t60 t61 t62 t63 t64 t65 t66 t67 t68 t69 t70 t71 t72 t73 t74 t75 t76 t77 t78 t79 t80 t81 t82 t83 t84 t85 t86 t87 : Value} {W0 : World} {vb nl il nc ic : Nat} {na ia : Option Addr} {LN LI : List Value} {w : World} {f : Nat → Option Nat} {u41 uI : Value} {g11 : Nat} {fl : Array Bool} {A : Act} (hfl : fl = #[true, true, true, false, false, false, false, true, true, false, true, true, false, false, false, false]) (hA : A = { tmps := (t0 :: t1 :: t2 :: .pointer (some ⟨vb, 0, none⟩) :: t4 :: t5 :: t6 :: t7 :: t8 :: t9 :: t10 :: t11 :: t12 :: t13 :: t14 :: t15 :: t16 :: t17 :: t18 :: t19 :: t20 :: t21 :: t22 :: t23 :: t24 :: t25 :: t26 :: t27 :: t28 :: t29 :: t30 :: t31 :: t32 :: t33 :: t34 :: t35 :: t36 :: t37 :: t38 :: t39 :: t40 :: u41 :: .pointer (some ⟨vb, 5, none⟩) :: .slice na nl nc :: t44 :: t45 :: t46 :: t47 :: .pointer (some ⟨vb, 4, none⟩) :: .slice ia il ic :: t50 :: .agg #[.int .i64 0, .int .i64 0, .int .i64 0, .string ⟨#[]⟩, .slice none 0 0, .slice none 0 0] :: .slice (some ⟨g11, 0, none⟩) 1 1 :: t53 :: t54 :: t55 :: t56 :: t57 :: t58 :: t59 :: t60 :: t61 :: t62 :: t63 :: t64 :: t65 :: t66 :: t67 :: t68 :: t69 :: t70 :: t71 :: t72 :: t73 :: t74 :: t75 :: t76 :: t77 :: t78 :: t79 :: t80 :: t81 :: t82 :: t83 :: t84 :: t85 :: t86 :: t87 :: []).toArray, defers := [] })
    (hS : SrcT W0 na ia nl il LN LI) (hp : ∀ p d v a w, Q (.panic p) (Act.put a d v) w → Q (.panic p) a w) (hF : FinT Q W0 vb nl il nc ic na ia LN LI t0 t1 t2 t4 t5 t6 t7 t9 t10 t11 t12 t13 t14 t15 t16 t17 t18 t19 t20 t21 t22 t23 t24 t25 t26 t27 t28 t29 t30 t31 t32 t33 t34 t35 t36 t37 t38 t39 t40 t55 t56 t57 t58 t59 t60 t61 t62 t63 t64 t65 t66 t67 t68 t69 t70 t71 t72 t73 t74 t75 t76 t77 t78 t79 t80 t81 t82 t83 t84 t85 t86 t87) (hI : InvT W0 w f ⟨#[122, 122]⟩ u41 0 [] uI 0 [] true false false true false) (h11 : f 3 = some g11) :
    wpAnyH Try.prog .any tnOps Q (fun w' => Below W0.heap.size W0 w') 9 fl A w := by
  subst hfl hA
  have hB0 := hI.1
  refine wpAnyH_ready (rs := [3, 4, 6, 14]) (by kernel_rfl) (by simp) ?_
  refine AllReadyH.cons rfl (fun K hK => ?_) (AllReadyH.cons rfl (fun K hK => ?_) (AllReadyH.cons rfl (fun K hK => ?_) (AllReadyH.cons rfl (fun K hK => ?_) AllReadyH.nil)))
  · skip
    obtain ⟨i0, hi, hz0, hz1, hz2⟩ := info_parts textInfo
    obtain ⟨⟨HL1, HL2⟩, ⟨HO1, HO2⟩, ⟨hl1, hl2⟩, hSS⟩ := id hS
    have HS := hSS _ hB0
    refine wp_append_lie w _ _ 26 rfl W0.heap.size 9 i0 _ 1 16 Try.underlying26 hi hz0 hz1 hz2 rfl (by decide) u41 0 [] rfl (hI.2.2.1 rfl).2 na nl nc LN rfl HL1 HS.1 HO1 (by unfold maxLen; omega) (by omega) hB0.size ?_
    intro v' w' hown hgr hbl
    have hI2 := hI.appN hown hgr hbl
    rw [List.nil_append, Nat.zero_add] at hI2
    refine hK.out _ _ hI2.1 (fun _ => ?_)
    exact tn10010_1 rfl rfl hS hp hF hI2 ((updO_ne _ _ (by omega)).trans h11)
  · skip
    have hI2 := hI.alloc4
    go_simp
    refine hK.out _ _ hI2.1 (fun _ => ?_)
    exact tn11010_0 rfl rfl hS hp hF hI2 (updO_at _ _ _) ((updO_ne _ _ (by omega)).trans h11)
  · skip
    have hI2 := hI.alloc6
    go_simp
    refine hK.out _ _ hI2.1 (fun _ => ?_)
    exact tn10110_0 rfl rfl hS hp hF hI2 ((updO_ne _ _ (by omega)).trans h11)
  · skip
    have hI2 := hI.alloc14
    go_simp
    refine hK.out _ _ hI2.1 (fun _ => ?_)
    exact tn10011_0 rfl rfl hS hp hF hI2 ((updO_ne _ _ (by omega)).trans h11) (updO_at _ _ _)
set_option maxRecDepth 100000 in
set_option maxHeartbeats 2000000 in
theorem tn10001_0 {Q : Exit → Act → World → Prop} {t0 t1 t2 t4 t5 t6 t7 t9 t10 t11 t12 t13 t14 t15 t16 t17 t18 t19 t20 t21 t22 t23 t24 t25 t26 t27 t28 t29 t30 t31 t32 t33 t34 t35 t36 t37 t38 t39 t40 t44 t45 t46 t47 t50 t52 t53 t54 t55 t56 t57 t58 t59 t60 t61 t62 t63 t64 t65 t66 t67 t68 t69 t70 t71 t72 t73 t74 t75 t76 t77 t78 t79 t80 t81 t82 t83 t84 t85 t86 t87 : Value} {W0 : World} {vb nl il nc ic : Nat} {na ia : Option Addr} {LN LI : List Value} {w : World} {f : Nat → Option Nat} {u41 uI : Value} {g14 : Nat} {fl : Array Bool} {A : Act} (hfl : fl = #[true, true, true, false, false, false, false, true, true, false, true, false, false, false, true, false]) (hA : A = { tmps := (t0 :: t1 :: t2 :: .pointer (some ⟨vb, 0, none⟩) :: t4 :: t5 :: t6 :: t7 :: .pointer (some ⟨g14, 0, none⟩) :: t9 :: t10 :: t11 :: t12 :: t13 :: t14 :: t15 :: t16 :: t17 :: t18 :: t19 :: t20 :: t21 :: t22 :: t23 :: t24 :: t25 :: t26 :: t27 :: t28 :: t29 :: t30 :: t31 :: t32 :: t33 :: t34 :: t35 :: t36 :: t37 :: t38 :: t39 :: t40 :: u41 :: .pointer (some ⟨vb, 5, none⟩) :: .slice na nl nc :: t44 :: t45 :: t46 :: t47 :: .pointer (some ⟨vb, 4, none⟩) :: .slice ia il ic :: t50 :: .agg #[.int .i64 0, .int .i64 0, .int .i64 0, .string ⟨#[]⟩, .slice none 0 0, .slice none 0 0] :: t52 :: t53 :: t54 :: t55 :: t56 :: t57 :: t58 :: t59 :: t60 :: t61 :: t62 :: t63 :: t64 :: t65 :: t66 :: t67 :: t68 :: t69 :: t70 :: t71 :: t72 :: t73 :: t74 :: t75 :: t76 :: t77 :: t78 :: t79 :: t80 :: t81 :: t82 :: t83 :: t84 :: t85 :: t86 :: t87 :: []).toArray, defers := [] })
    (hS : SrcT W0 na ia nl il LN LI) (hp : ∀ p d v a w, Q (.panic p) (Act.put a d v) w → Q (.panic p) a w) (hF : FinT Q W0 vb nl il nc ic na ia LN LI t0 t1 t2 t4 t5 t6 t7 t9 t10 t11 t12 t13 t14 t15 t16 t17 t18 t19 t20 t21 t22 t23 t24 t25 t26 t27 t28 t29 t30 t31 t32 t33 t34 t35 t36 t37 t38 t39 t40 t55 t56 t57 t58 t59 t60 t61 t62 t63 t64 t65 t66 t67 t68 t69 t70 t71 t72 t73 t74 t75 t76 t77 t78 t79 t80 t81 t82 t83 t84 t85 t86 t87) (hI : InvT W0 w f ⟨#[122, 122]⟩ u41 0 [] uI 0 [] true false false false true) (h14 : f 4 = some g14) :
    wpAnyH Try.prog .any tnOps Q (fun w' => Below W0.heap.size W0 w') 9 fl A w := by
  subst hfl hA
  have hB0 := hI.1
  refine wpAnyH_ready (rs := [3, 4, 6, 11]) (by kernel_rfl) (by simp) ?_
  refine AllReadyH.cons rfl (fun K hK => ?_) (AllReadyH.cons rfl (fun K hK => ?_) (AllReadyH.cons rfl (fun K hK => ?_) (AllReadyH.cons rfl (fun K hK => ?_) AllReadyH.nil)))
  · skip
    obtain ⟨i0, hi, hz0, hz1, hz2⟩ := info_parts textInfo
    obtain ⟨⟨HL1, HL2⟩, ⟨HO1, HO2⟩, ⟨hl1, hl2⟩, hSS⟩ := id hS
    have HS := hSS _ hB0
    refine wp_append_lie w _ _ 26 rfl W0.heap.size 9 i0 _ 1 16 Try.underlying26 hi hz0 hz1 hz2 rfl (by decide) u41 0 [] rfl (hI.2.2.1 rfl).2 na nl nc LN rfl HL1 HS.1 HO1 (by unfold maxLen; omega) (by omega) hB0.size ?_
    intro v' w' hown hgr hbl
    have hI2 := hI.appN hown hgr hbl
    rw [List.nil_append, Nat.zero_add] at hI2
    refine hK.out _ _ hI2.1 (fun _ => ?_)
    exact tn10001_1 rfl rfl hS hp hF hI2 ((updO_ne _ _ (by omega)).trans h14)
  · skip
    have hI2 := hI.alloc4
    go_simp
    refine hK.out _ _ hI2.1 (fun _ => ?_)
    exact tn11001_0 rfl rfl hS hp hF hI2 (updO_at _ _ _) ((updO_ne _ _ (by omega)).trans h14)
  · skip
    have hI2 := hI.alloc6
    go_simp
    refine hK.out _ _ hI2.1 (fun _ => ?_)
    exact tn10101_0 rfl rfl hS hp hF hI2 ((updO_ne _ _ (by omega)).trans h14)
  · skip
    have hI2 := hI.alloc11
    go_simp
    refine hK.out _ _ hI2.1 (fun _ => ?_)
    exact tn10011_0 rfl rfl hS hp hF hI2 (updO_at _ _ _) ((updO_ne _ _ (by omega)).trans h14)
set_option maxRecDepth 100000 in
set_option maxHeartbeats 2000000 in
theorem tn01100_0 {Q : Exit → Act → World → Prop} {t0 t1 t2 t4 t5 t6 t7 t8 t9 t10 t11 t12 t13 t14 t15 t16 t17 t18 t19 t20 t21 t22 t23 t24 t25 t26 t27 t28 t29 t30 t31 t32 t33 t34 t35 t36 t37 t38 t39 t40 t41 t44 t46 t50 t52 t53 t54 t55 t56 t57 t58 t59 t60 t61 t62 t63 t64 t65 t66 t67 t68 t69 t70 t71 t72 t73 t74 t75 t76 t77 t78 t79 t80 t81 t82 t83 t84 t85 t86 t87 : Value} {W0 : World} {vb nl il nc ic : Nat} {na ia : Option Addr} {LN LI : List Value} {w : World} {f : Nat → Option Nat} {u47 uN : Value} {g4 : Nat} {fl : Array Bool} {A : Act} (hfl : fl = #[false, true, true, false, true, false, true, true, true, false, true, false, false, false, false, false]) (hA : A = { tmps := (t0 :: t1 :: t2 :: .pointer (some ⟨vb, 0, none⟩) :: t4 :: t5 :: t6 :: t7 :: t8 :: t9 :: t10 :: t11 :: t12 :: t13 :: t14 :: t15 :: t16 :: t17 :: t18 :: t19 :: t20 :: t21 :: t22 :: t23 :: t24 :: t25 :: t26 :: t27 :: t28 :: t29 :: t30 :: t31 :: t32 :: t33 :: t34 :: t35 :: t36 :: t37 :: t38 :: t39 :: t40 :: t41 :: .pointer (some ⟨vb, 5, none⟩) :: .slice na nl nc :: t44 :: .slice (some ⟨g4, 0, none⟩) 1 1 :: t46 :: u47 :: .pointer (some ⟨vb, 4, none⟩) :: .slice ia il ic :: t50 :: .agg #[.int .i64 0, .int .i64 0, .int .i64 0, .string ⟨#[]⟩, .slice none 0 0, .slice none 0 0] :: t52 :: t53 :: t54 :: t55 :: t56 :: t57 :: t58 :: t59 :: t60 :: t61 :: t62 :: t63 :: t64 :: t65 :: t66 :: t67 :: t68 :: t69 :: t70 :: t71 :: t72 :: t73 :: t74 :: t75 :: t76 :: t77 :: t78 :: t79 :: t80 :: t81 :: t82 :: t83 :: t84 :: t85 :: t86 :: t87 :: []).toArray, defers := [] })
    (hS : SrcT W0 na ia nl il LN LI) (hp : ∀ p d v a w, Q (.panic p) (Act.put a d v) w → Q (.panic p) a w) (hF : FinT Q W0 vb nl il nc ic na ia LN LI t0 t1 t2 t4 t5 t6 t7 t9 t10 t11 t12 t13 t14 t15 t16 t17 t18 t19 t20 t21 t22 t23 t24 t25 t26 t27 t28 t29 t30 t31 t32 t33 t34 t35 t36 t37 t38 t39 t40 t55 t56 t57 t58 t59 t60 t61 t62 t63 t64 t65 t66 t67 t68 t69 t70 t71 t72 t73 t74 t75 t76 t77 t78 t79 t80 t81 t82 t83 t84 t85 t86 t87) (hI : InvT W0 w f ⟨#[122, 122]⟩ uN 0 [] u47 0 [] false true true false false) (h4 : f 1 = some g4) :
    wpAnyH Try.prog .any tnOps Q (fun w' => Below W0.heap.size W0 w') 9 fl A w := by
  subst hfl hA
  have hB0 := hI.1
  refine wpAnyH_ready (rs := [0, 11, 14]) (by kernel_rfl) (by simp) ?_
  refine AllReadyH.cons rfl (fun K hK => ?_) (AllReadyH.cons rfl (fun K hK => ?_) (AllReadyH.cons rfl (fun K hK => ?_) AllReadyH.nil))
  · skip
    have hI2 := hI.alloc0
    go_simp
    refine hK.out _ _ hI2.1 (fun _ => ?_)
    exact tn11100_0 rfl rfl hS hp hF hI2 ((updO_ne _ _ (by omega)).trans h4)
  · skip
    have hI2 := hI.alloc11
    go_simp
    refine hK.out _ _ hI2.1 (fun _ => ?_)
    exact tn01110_0 rfl rfl hS hp hF hI2 ((updO_ne _ _ (by omega)).trans h4) (updO_at _ _ _)
  · skip
    have hI2 := hI.alloc14
    go_simp
    refine hK.out _ _ hI2.1 (fun _ => ?_)
    exact tn01101_0 rfl rfl hS hp hF hI2 ((updO_ne _ _ (by omega)).trans h4) (updO_at _ _ _)
set_option maxRecDepth 100000 in
set_option maxHeartbeats 2000000 in
theorem tn01010_0 {Q : Exit → Act → World → Prop} {t0 t1 t2 t4 t5 t6 t7 t8 t9 t10 t11 t12 t13 t14 t15 t16 t17 t18 t19 t20 t21 t22 t23 t24 t25 t26 t27 t28 t29 t30 t31 t32 t33 t34 t35 t36 t37 t38 t39 t40 t41 t44 t46 t47 t50 t53 t54 t55 t56 t57 t58 t59 t60 t61 t62 t63 t64 t65 t66 t67 t68 t69 t70 t71 t72 t73 t74 t75 t76 t77 t78 t79 t80 t81 t82 t83 t84 t85 t86 t87 : Value} {W0 : World} {vb nl il nc ic : Nat} {na ia : Option Addr} {LN LI : List Value} {w : World} {f : Nat → Option Nat} {uN uI : Value} {g4 g11 : Nat} {fl : Array Bool} {A : Act} (hfl : fl = #[false, true, true, false, true, false, false, true, true, false, true, true, false, false, false, false]) (hA : A = { tmps := (t0 :: t1 :: t2 :: .pointer (some ⟨vb, 0, none⟩) :: t4 :: t5 :: t6 :: t7 :: t8 :: t9 :: t10 :: t11 :: t12 :: t13 :: t14 :: t15 :: t16 :: t17 :: t18 :: t19 :: t20 :: t21 :: t22 :: t23 :: t24 :: t25 :: t26 :: t27 :: t28 :: t29 :: t30 :: t31 :: t32 :: t33 :: t34 :: t35 :: t36 :: t37 :: t38 :: t39 :: t40 :: t41 :: .pointer (some ⟨vb, 5, none⟩) :: .slice na nl nc :: t44 :: .slice (some ⟨g4, 0, none⟩) 1 1 :: t46 :: t47 :: .pointer (some ⟨vb, 4, none⟩) :: .slice ia il ic :: t50 :: .agg #[.int .i64 0, .int .i64 0, .int .i64 0, .string ⟨#[]⟩, .slice none 0 0, .slice none 0 0] :: .slice (some ⟨g11, 0, none⟩) 1 1 :: t53 :: t54 :: t55 :: t56 :: t57 :: t58 :: t59 :: t60 :: t61 :: t62 :: t63 :: t64 :: t65 :: t66 :: t67 :: t68 :: t69 :: t70 :: t71 :: t72 :: t73 :: t74 :: t75 :: t76 :: t77 :: t78 :: t79 :: t80 :: t81 :: t82 :: t83 :: t84 :: t85 :: t86 :: t87 :: []).toArray, defers := [] })
    (hS : SrcT W0 na ia nl il LN LI) (hp : ∀ p d v a w, Q (.panic p) (Act.put a d v) w → Q (.panic p) a w) (hF : FinT Q W0 vb nl il nc ic na ia LN LI t0 t1 t2 t4 t5 t6 t7 t9 t10 t11 t12 t13 t14 t15 t16 t17 t18 t19 t20 t21 t22 t23 t24 t25 t26 t27 t28 t29 t30 t31 t32 t33 t34 t35 t36 t37 t38 t39 t40 t55 t56 t57 t58 t59 t60 t61 t62 t63 t64 t65 t66 t67 t68 t69 t70 t71 t72 t73 t74 t75 t76 t77 t78 t79 t80 t81 t82 t83 t84 t85 t86 t87) (hI : InvT W0 w f ⟨#[122, 122]⟩ uN 0 [] uI 0 [] false true false true false) (h4 : f 1 = some g4) (h11 : f 3 = some g11) :
    wpAnyH Try.prog .any tnOps Q (fun w' => Below W0.heap.size W0 w') 9 fl A w := by
  subst hfl hA
  have hB0 := hI.1
  refine wpAnyH_ready (rs := [0, 6, 14]) (by kernel_rfl) (by simp) ?_
  refine AllReadyH.cons rfl (fun K hK => ?_) (AllReadyH.cons rfl (fun K hK => ?_) (AllReadyH.cons rfl (fun K hK => ?_) AllReadyH.nil))
  · skip
    have hI2 := hI.alloc0
    go_simp
    refine hK.out _ _ hI2.1 (fun _ => ?_)
    exact tn11010_0 rfl rfl hS hp hF hI2 ((updO_ne _ _ (by omega)).trans h4) ((updO_ne _ _ (by omega)).trans h11)
  · skip
    have hI2 := hI.alloc6
    go_simp
    refine hK.out _ _ hI2.1 (fun _ => ?_)
    exact tn01110_0 rfl rfl hS hp hF hI2 ((updO_ne _ _ (by omega)).trans h4) ((updO_ne _ _ (by omega)).trans h11)
  · skip
    have hI2 := hI.alloc14
    go_simp
    refine hK.out _ _ hI2.1 (fun _ => ?_)
    exact tn01011_0 rfl rfl hS hp hF hI2 ((updO_ne _ _ (by omega)).trans h4) ((updO_ne _ _ (by omega)).trans h11) (updO_at _ _ _)
set_option maxRecDepth 100000 in
set_option maxHeartbeats 2000000 in
theorem tn01001_0 {Q : Exit → Act → World → Prop} {t0 t1 t2 t4 t5 t6 t7 t9 t10 t11 t12 t13 t14 t15 t16 t17 t18 t19 t20 t21 t22 t23 t24 t25 t26 t27 t28 t29 t30 t31 t32 t33 t34 t35 t36 t37 t38 t39 t40 t41 t44 t46 t47 t50 t52 t53 t54 t55 t56 t57 t58 t59 t60 t61 t62 t63 t64 t65 t66 t67 t68 t69 t70 t71 t72 t73 t74 t75 t76 t77 t78 t79 t80 t81 t82 t83 t84 t85 t86 t87 : Value} {W0 : World} {vb nl il nc ic : Nat} {na ia : Option Addr} {LN LI : List Value} {w : World} {f : Nat → Option Nat} {uN uI : Value} {g4 g14 : Nat} {fl : Array Bool} {A : Act} (hfl : fl = #[false, true, true, false, true, false, false, true, true, false, true, false, false, false, true, false]) (hA : A = { tmps := (t0 :: t1 :: t2 :: .pointer (some ⟨vb, 0, none⟩) :: t4 :: t5 :: t6 :: t7 :: .pointer (some ⟨g14, 0, none⟩) :: t9 :: t10 :: t11 :: t12 :: t13 :: t14 :: t15 :: t16 :: t17 :: t18 :: t19 :: t20 :: t21 :: t22 :: t23 :: t24 :: t25 :: t26 :: t27 :: t28 :: t29 :: t30 :: t31 :: t32 :: t33 :: t34 :: t35 :: t36 :: t37 :: t38 :: t39 :: t40 :: t41 :: .pointer (some ⟨vb, 5, none⟩) :: .slice na nl nc :: t44 :: .slice (some ⟨g4, 0, none⟩) 1 1 :: t46 :: t47 :: .pointer (some ⟨vb, 4, none⟩) :: .slice ia il ic :: t50 :: .agg #[.int .i64 0, .int .i64 0, .int .i64 0, .string ⟨#[]⟩, .slice none 0 0, .slice none 0 0] :: t52 :: t53 :: t54 :: t55 :: t56 :: t57 :: t58 :: t59 :: t60 :: t61 :: t62 :: t63 :: t64 :: t65 :: t66 :: t67 :: t68 :: t69 :: t70 :: t71 :: t72 :: t73 :: t74 :: t75 :: t76 :: t77 :: t78 :: t79 :: t80 :: t81 :: t82 :: t83 :: t84 :: t85 :: t86 :: t87 :: []).toArray, defers := [] })
    (hS : SrcT W0 na ia nl il LN LI) (hp : ∀ p d v a w, Q (.panic p) (Act.put a d v) w → Q (.panic p) a w) (hF : FinT Q W0 vb nl il nc ic na ia LN LI t0 t1 t2 t4 t5 t6 t7 t9 t10 t11 t12 t13 t14 t15 t16 t17 t18 t19 t20 t21 t22 t23 t24 t25 t26 t27 t28 t29 t30 t31 t32 t33 t34 t35 t36 t37 t38 t39 t40 t55 t56 t57 t58 t59 t60 t61 t62 t63 t64 t65 t66 t67 t68 t69 t70 t71 t72 t73 t74 t75 t76 t77 t78 t79 t80 t81 t82 t83 t84 t85 t86 t87) (hI : InvT W0 w f ⟨#[122, 122]⟩ uN 0 [] uI 0 [] false true false false true) (h4 : f 1 = some g4) (h14 : f 4 = some g14) :
    wpAnyH Try.prog .any tnOps Q (fun w' => Below W0.heap.size W0 w') 9 fl A w := by
  subst hfl hA
  have hB0 := hI.1
  refine wpAnyH_ready (rs := [0, 6, 11]) (by kernel_rfl) (by simp) ?_
  refine AllReadyH.cons rfl (fun K hK => ?_) (AllReadyH.cons rfl (fun K hK => ?_) (AllReadyH.cons rfl (fun K hK => ?_) AllReadyH.nil))
  · skip
    have hI2 := hI.alloc0
    go_simp
    refine hK.out _ _ hI2.1 (fun _ => ?_)
    exact tn11001_0 rfl rfl hS hp hF hI2 ((updO_ne _ _ (by omega)).trans h4) ((updO_ne _ _ (by omega)).trans h14)
  · skip
    have hI2 := hI.alloc6
    go_simp
    refine hK.out _ _ hI2.1 (fun _ => ?_)
    exact tn01101_0 rfl rfl hS hp hF hI2 ((updO_ne _ _ (by omega)).trans h4) ((updO_ne _ _ (by omega)).trans h14)
  · skip
    have hI2 := hI.alloc11
    go_simp
    refine hK.out _ _ hI2.1 (fun _ => ?_)
    exact tn01011_0 rfl rfl hS hp hF hI2 ((updO_ne _ _ (by omega)).trans h4) (updO_at _ _ _) ((updO_ne _ _ (by omega)).trans h14)
set_option maxRecDepth 100000 in
set_option maxHeartbeats 2000000 in
theorem tn00110_0 {Q : Exit → Act → World → Prop} {t0 t1 t2 t4 t5 t6 t7 t8 t9 t10 t11 t12 t13 t14 t15 t16 t17 t18 t19 t20 t21 t22 t23 t24 t25 t26 t27 t28 t29 t30 t31 t32 t33 t34 t35 t36 t37 t38 t39 t40 t41 t44 t45 t46 t50 t53 t54 t55 t56 t57 t58 t59 t60 t61 t62 t63 t64 t65 t66 t67 t68 t69 t70 t71 t72 t73 t74 t75 t76 t77 t78 t79 t80 t81 t82 t83 t84 t85 t86 t87 : Value} {W0 : World} {vb nl il nc ic : Nat} {na ia : Option Addr} {LN LI : List Value} {w : World} {f : Nat → Option Nat} {u47 uN : Value} {g11 : Nat} {fl : Array Bool} {A : Act} (hfl : fl = #[false, true, true, false, false, false, true, true, true, false, true, true, false, false, false, false]) (hA : A = { tmps := (t0 :: t1 :: t2 :: .pointer (some ⟨vb, 0, none⟩) :: t4 :: t5 :: t6 :: t7 :: t8 :: t9 :: t10 :: t11 :: t12 :: t13 :: t14 :: t15 :: t16 :: t17 :: t18 :: t19 :: t20 :: t21 :: t22 :: t23 :: t24 :: t25 :: t26 :: t27 :: t28 :: t29 :: t30 :: t31 :: t32 :: t33 :: t34 :: t35 :: t36 :: t37 :: t38 :: t39 :: t40 :: t41 :: .pointer (some ⟨vb, 5, none⟩) :: .slice na nl nc :: t44 :: t45 :: t46 :: u47 :: .pointer (some ⟨vb, 4, none⟩) :: .slice ia il ic :: t50 :: .agg #[.int .i64 0, .int .i64 0, .int .i64 0, .string ⟨#[]⟩, .slice none 0 0, .slice none 0 0] :: .slice (some ⟨g11, 0, none⟩) 1 1 :: t53 :: t54 :: t55 :: t56 :: t57 :: t58 :: t59 :: t60 :: t61 :: t62 :: t63 :: t64 :: t65 :: t66 :: t67 :: t68 :: t69 :: t70 :: t71 :: t72 :: t73 :: t74 :: t75 :: t76 :: t77 :: t78 :: t79 :: t80 :: t81 :: t82 :: t83 :: t84 :: t85 :: t86 :: t87 :: []).toArray, defers := [] })
    (hS : SrcT W0 na ia nl il LN LI) (hp : ∀ p d v a w, Q (.panic p) (Act.put a d v) w → Q (.panic p) a w) (hF : FinT Q W0 vb nl il nc ic na ia LN LI t0 t1 t2 t4 t5 t6 t7 t9 t10 t11 t12 t13 t14 t15 t16 t17 t18 t19 t20 t21 t22 t23 t24 t25 t26 t27 t28 t29 t30 t31 t32 t33 t34 t35 t36 t37 t38 t39 t40 t55 t56 t57 t58 t59 t60 t61 t62 t63 t64 t65 t66 t67 t68 t69 t70 t71 t72 t73 t74 t75 t76 t77 t78 t79 t80 t81 t82 t83 t84 t85 t86 t87) (hI : InvT W0 w f ⟨#[122, 122]⟩ uN 0 [] u47 0 [] false false true true false) (h11 : f 3 = some g11) :
    wpAnyH Try.prog .any tnOps Q (fun w' => Below W0.heap.size W0 w') 9 fl A w := by
  subst hfl hA
  have hB0 := hI.1
  refine wpAnyH_ready (rs := [0, 4, 14]) (by kernel_rfl) (by simp) ?_
  refine AllReadyH.cons rfl (fun K hK => ?_) (AllReadyH.cons rfl (fun K hK => ?_) (AllReadyH.cons rfl (fun K hK => ?_) AllReadyH.nil))
  · skip
    have hI2 := hI.alloc0
    go_simp
    refine hK.out _ _ hI2.1 (fun _ => ?_)
    exact tn10110_0 rfl rfl hS hp hF hI2 ((updO_ne _ _ (by omega)).trans h11)
  · skip
    have hI2 := hI.alloc4
    go_simp
    refine hK.out _ _ hI2.1 (fun _ => ?_)
    exact tn01110_0 rfl rfl hS hp hF hI2 (updO_at _ _ _) ((updO_ne _ _ (by omega)).trans h11)
  · skip
    have hI2 := hI.alloc14
    go_simp
    refine hK.out _ _ hI2.1 (fun _ => ?_)
    exact tn00111_0 rfl rfl hS hp hF hI2 ((updO_ne _ _ (by omega)).trans h11) (updO_at _ _ _)
set_option maxRecDepth 100000 in
set_option maxHeartbeats 2000000 in
theorem tn00101_0 {Q : Exit → Act → World → Prop} {t0 t1 t2 t4 t5 t6 t7 t9 t10 t11 t12 t13 t14 t15 t16 t17 t18 t19 t20 t21 t22 t23 t24 t25 t26 t27 t28 t29 t30 t31 t32 t33 t34 t35 t36 t37 t38 t39 t40 t41 t44 t45 t46 t50 t52 t53 t54 t55 t56 t57 t58 t59 t60 t61 t62 t63 t64 t65 t66 t67 t68 t69 t70 t71 t72 t73 t74 t75 t76 t77 t78 t79 t80 t81 t82 t83 t84 t85 t86 t87 : Value} {W0 : World} {vb nl il nc ic : Nat} {na ia : Option Addr} {LN LI : List Value} {w : World} {f : Nat → Option Nat} {u47 uN : Value} {g14 : Nat} {fl : Array Bool} {A : Act} (hfl : fl = #[false, true, true, false, false, false, true, true, true, false, true, false, false, false, true, false]) (hA : A = { tmps := (t0 :: t1 :: t2 :: .pointer (some ⟨vb, 0, none⟩) :: t4 :: t5 :: t6 :: t7 :: .pointer (some ⟨g14, 0, none⟩) :: t9 :: t10 :: t11 :: t12 :: t13 :: t14 :: t15 :: t16 :: t17 :: t18 :: t19 :: t20 :: t21 :: t22 :: t23 :: t24 :: t25 :: t26 :: t27 :: t28 :: t29 :: t30 :: t31 :: t32 :: t33 :: t34 :: t35 :: t36 :: t37 :: t38 :: t39 :: t40 :: t41 :: .pointer (some ⟨vb, 5, none⟩) :: .slice na nl nc :: t44 :: t45 :: t46 :: u47 :: .pointer (some ⟨vb, 4, none⟩) :: .slice ia il ic :: t50 :: .agg #[.int .i64 0, .int .i64 0, .int .i64 0, .string ⟨#[]⟩, .slice none 0 0, .slice none 0 0] :: t52 :: t53 :: t54 :: t55 :: t56 :: t57 :: t58 :: t59 :: t60 :: t61 :: t62 :: t63 :: t64 :: t65 :: t66 :: t67 :: t68 :: t69 :: t70 :: t71 :: t72 :: t73 :: t74 :: t75 :: t76 :: t77 :: t78 :: t79 :: t80 :: t81 :: t82 :: t83 :: t84 :: t85 :: t86 :: t87 :: []).toArray, defers := [] })
    (hS : SrcT W0 na ia nl il LN LI) (hp : ∀ p d v a w, Q (.panic p) (Act.put a d v) w → Q (.panic p) a w) (hF : FinT Q W0 vb nl il nc ic na ia LN LI t0 t1 t2 t4 t5 t6 t7 t9 t10 t11 t12 t13 t14 t15 t16 t17 t18 t19 t20 t21 t22 t23 t24 t25 t26 t27 t28 t29 t30 t31 t32 t33 t34 t35 t36 t37 t38 t39 t40 t55 t56 t57 t58 t59 t60 t61 t62 t63 t64 t65 t66 t67 t68 t69 t70 t71 t72 t73 t74 t75 t76 t77 t78 t79 t80 t81 t82 t83 t84 t85 t86 t87) (hI : InvT W0 w f ⟨#[122, 122]⟩ uN 0 [] u47 0 [] false false true false true) (h14 : f 4 = some g14) :
    wpAnyH Try.prog .any tnOps Q (fun w' => Below W0.heap.size W0 w') 9 fl A w := by
  subst hfl hA
  have hB0 := hI.1
  refine wpAnyH_ready (rs := [0, 4, 11]) (by kernel_rfl) (by simp) ?_
  refine AllReadyH.cons rfl (fun K hK => ?_) (AllReadyH.cons rfl (fun K hK => ?_) (AllReadyH.cons rfl (fun K hK => ?_) AllReadyH.nil))
  · skip
    have hI2 := hI.alloc0
    go_simp
    refine hK.out _ _ hI2.1 (fun _ => ?_)
    exact tn10101_0 rfl rfl hS hp hF hI2 ((updO_ne _ _ (by omega)).trans h14)
  · skip
    have hI2 := hI.alloc4
    go_simp
    refine hK.out _ _ hI2.1 (fun _ => ?_)
    exact tn01101_0 rfl rfl hS hp hF hI2 (updO_at _ _ _) ((updO_ne _ _ (by omega)).trans h14)
  · skip
    have hI2 := hI.alloc11
    go_simp
    refine hK.out _ _ hI2.1 (fun _ => ?_)
    exact tn00111_0 rfl rfl hS hp hF hI2 (updO_at _ _ _) ((updO_ne _ _ (by omega)).trans h14)
set_option maxRecDepth 100000 in
set_option maxHeartbeats 2000000 in
theorem tn00011_0 {Q : Exit → Act → World → Prop} {t0 t1 t2 t4 t5 t6 t7 t9 t10 t11 t12 t13 t14 t15 t16 t17 t18 t19 t20 t21 t22 t23 t24 t25 t26 t27 t28 t29 t30 t31 t32 t33 t34 t35 t36 t37 t38 t39 t40 t41 t44 t45 t46 t47 t50 t53 t54 t55 t56 t57 t58 t59 t60 t61 t62 t63 t64 t65 t66 t67 t68 t69 t70 t71 t72 t73 t74 t75 t76 t77 t78 t79 t80 t81 t82 t83 t84 t85 t86 t87 : Value} {W0 : World} {vb nl il nc ic : Nat} {na ia : Option Addr} {LN LI : List Value} {w : World} {f : Nat → Option Nat} {uN uI : Value} {g11 g14 : Nat} {fl : Array Bool} {A : Act} (hfl : fl = #[false, true, true, false, false, false, false, true, true, false, true, true, false, false, true, false]) (hA : A = { tmps := (t0 :: t1 :: t2 :: .pointer (some ⟨vb, 0, none⟩) :: t4 :: t5 :: t6 :: t7 :: .pointer (some ⟨g14, 0, none⟩) :: t9 :: t10 :: t11 :: t12 :: t13 :: t14 :: t15 :: t16 :: t17 :: t18 :: t19 :: t20 :: t21 :: t22 :: t23 :: t24 :: t25 :: t26 :: t27 :: t28 :: t29 :: t30 :: t31 :: t32 :: t33 :: t34 :: t35 :: t36 :: t37 :: t38 :: t39 :: t40 :: t41 :: .pointer (some ⟨vb, 5, none⟩) :: .slice na nl nc :: t44 :: t45 :: t46 :: t47 :: .pointer (some ⟨vb, 4, none⟩) :: .slice ia il ic :: t50 :: .agg #[.int .i64 0, .int .i64 0, .int .i64 0, .string ⟨#[]⟩, .slice none 0 0, .slice none 0 0] :: .slice (some ⟨g11, 0, none⟩) 1 1 :: t53 :: t54 :: t55 :: t56 :: t57 :: t58 :: t59 :: t60 :: t61 :: t62 :: t63 :: t64 :: t65 :: t66 :: t67 :: t68 :: t69 :: t70 :: t71 :: t72 :: t73 :: t74 :: t75 :: t76 :: t77 :: t78 :: t79 :: t80 :: t81 :: t82 :: t83 :: t84 :: t85 :: t86 :: t87 :: []).toArray, defers := [] })
    (hS : SrcT W0 na ia nl il LN LI) (hp : ∀ p d v a w, Q (.panic p) (Act.put a d v) w → Q (.panic p) a w) (hF : FinT Q W0 vb nl il nc ic na ia LN LI t0 t1 t2 t4 t5 t6 t7 t9 t10 t11 t12 t13 t14 t15 t16 t17 t18 t19 t20 t21 t22 t23 t24 t25 t26 t27 t28 t29 t30 t31 t32 t33 t34 t35 t36 t37 t38 t39 t40 t55 t56 t57 t58 t59 t60 t61 t62 t63 t64 t65 t66 t67 t68 t69 t70 t71 t72 t73 t74 t75 t76 t77 t78 t79 t80 t81 t82 t83 t84 t85 t86 t87) (hI : InvT W0 w f ⟨#[122, 122]⟩ uN 0 [] uI 0 [] false false false true true) (h11 : f 3 = some g11) (h14 : f 4 = some g14) :
    wpAnyH Try.prog .any tnOps Q (fun w' => Below W0.heap.size W0 w') 9 fl A w := by
  subst hfl hA
  have hB0 := hI.1
  refine wpAnyH_ready (rs := [0, 4, 6]) (by kernel_rfl) (by simp) ?_
  refine AllReadyH.cons rfl (fun K hK => ?_) (AllReadyH.cons rfl (fun K hK => ?_) (AllReadyH.cons rfl (fun K hK => ?_) AllReadyH.nil))
  · skip
    have hI2 := hI.alloc0
    go_simp
    refine hK.out _ _ hI2.1 (fun _ => ?_)
    exact tn10011_0 rfl rfl hS hp hF hI2 ((updO_ne _ _ (by omega)).trans h11) ((updO_ne _ _ (by omega)).trans h14)
  · skip
    have hI2 := hI.alloc4
    go_simp
    refine hK.out _ _ hI2.1 (fun _ => ?_)
    exact tn01011_0 rfl rfl hS hp hF hI2 (updO_at _ _ _) ((updO_ne _ _ (by omega)).trans h11) ((updO_ne _ _ (by omega)).trans h14)
  · skip
    have hI2 := hI.alloc6
    go_simp
    refine hK.out _ _ hI2.1 (fun _ => ?_)
    exact tn00111_0 rfl rfl hS hp hF hI2 ((updO_ne _ _ (by omega)).trans h11) ((updO_ne _ _ (by omega)).trans h14)
set_option maxRecDepth 100000 in
set_option maxHeartbeats 2000000 in
theorem tn10000_0 {Q : Exit → Act → World → Prop} {t0 t1 t2 t4 t5 t6 t7 t8 t9 t10 t11 t12 t13 t14 t15 t16 t17 t18 t19 t20 t21 t22 t23 t24 t25 t26 t27 t28 t29 t30 t31 t32 t33 t34 t35 t36 t37 t38 t39 t40 t44 t45 t46 t47 t50 t52 t53 t54 t55 t56 t57 t58 t59 t60 t61 t62 t63 t64 t65 t66 t67 t68 t69 t70 t71 t72 t73 t74 t75 t76 t77 t78 t79 t80 t81 t82 t83 t84 t85 t86 t87 : Value} {W0 : World} {vb nl il nc ic : Nat} {na ia : Option Addr} {LN LI : List Value} {w : World} {f : Nat → Option Nat} {u41 uI : Value} {fl : Array Bool} {A : Act} (hfl : fl = #[true, true, true, false, false, false, false, true, true, false, true, false, false, false, false, false]) (hA : A = { tmps := (t0 :: t1 :: t2 :: .pointer (some ⟨vb, 0, none⟩) :: t4 :: t5 :: t6 :: t7 :: t8 :: t9 :: t10 :: t11 :: t12 :: t13 :: t14 :: t15 :: t16 :: t17 :: t18 :: t19 :: t20 :: t21 :: t22 :: t23 :: t24 :: t25 :: t26 :: t27 :: t28 :: t29 :: t30 :: t31 :: t32 :: t33 :: t34 :: t35 :: t36 :: t37 :: t38 :: t39 :: t40 :: u41 :: .pointer (some ⟨vb, 5, none⟩) :: .slice na nl nc :: t44 :: t45 :: t46 :: t47 :: .pointer (some ⟨vb, 4, none⟩) :: .slice ia il ic :: t50 :: .agg #[.int .i64 0, .int .i64 0, .int .i64 0, .string ⟨#[]⟩, .slice none 0 0, .slice none 0 0] :: t52 :: t53 :: t54 :: t55 :: t56 :: t57 :: t58 :: t59 :: t60 :: t61 :: t62 :: t63 :: t64 :: t65 :: t66 :: t67 :: t68 :: t69 :: t70 :: t71 :: t72 :: t73 :: t74 :: t75 :: t76 :: t77 :: t78 :: t79 :: t80 :: t81 :: t82 :: t83 :: t84 :: t85 :: t86 :: t87 :: []).toArray, defers := [] })
    (hS : SrcT W0 na ia nl il LN LI) (hp : ∀ p d v a w, Q (.panic p) (Act.put a d v) w → Q (.panic p) a w) (hF : FinT Q W0 vb nl il nc ic na ia LN LI t0 t1 t2 t4 t5 t6 t7 t9 t10 t11 t12 t13 t14 t15 t16 t17 t18 t19 t20 t21 t22 t23 t24 t25 t26 t27 t28 t29 t30 t31 t32 t33 t34 t35 t36 t37 t38 t39 t40 t55 t56 t57 t58 t59 t60 t61 t62 t63 t64 t65 t66 t67 t68 t69 t70 t71 t72 t73 t74 t75 t76 t77 t78 t79 t80 t81 t82 t83 t84 t85 t86 t87) (hI : InvT W0 w f ⟨#[122, 122]⟩ u41 0 [] uI 0 [] true false false false false) :
    wpAnyH Try.prog .any tnOps Q (fun w' => Below W0.heap.size W0 w') 10 fl A w := by
  subst hfl hA
  have hB0 := hI.1
  refine wpAnyH_ready (rs := [3, 4, 6, 11, 14]) (by kernel_rfl) (by simp) ?_
  refine AllReadyH.cons rfl (fun K hK => ?_) (AllReadyH.cons rfl (fun K hK => ?_) (AllReadyH.cons rfl (fun K hK => ?_) (AllReadyH.cons rfl (fun K hK => ?_) (AllReadyH.cons rfl (fun K hK => ?_) AllReadyH.nil))))
  · skip
    obtain ⟨i0, hi, hz0, hz1, hz2⟩ := info_parts textInfo
    obtain ⟨⟨HL1, HL2⟩, ⟨HO1, HO2⟩, ⟨hl1, hl2⟩, hSS⟩ := id hS
    have HS := hSS _ hB0
    refine wp_append_lie w _ _ 26 rfl W0.heap.size 9 i0 _ 1 16 Try.underlying26 hi hz0 hz1 hz2 rfl (by decide) u41 0 [] rfl (hI.2.2.1 rfl).2 na nl nc LN rfl HL1 HS.1 HO1 (by unfold maxLen; omega) (by omega) hB0.size ?_
    intro v' w' hown hgr hbl
    have hI2 := hI.appN hown hgr hbl
    rw [List.nil_append, Nat.zero_add] at hI2
    refine hK.out _ _ hI2.1 (fun _ => ?_)
    exact tn10000_1 rfl rfl hS hp hF hI2
  · skip
    have hI2 := hI.alloc4
    go_simp
    refine hK.out _ _ hI2.1 (fun _ => ?_)
    exact tn11000_0 rfl rfl hS hp hF hI2 (updO_at _ _ _)
  · skip
    have hI2 := hI.alloc6
    go_simp
    refine hK.out _ _ hI2.1 (fun _ => ?_)
    exact tn10100_0 rfl rfl hS hp hF hI2
  · skip
    have hI2 := hI.alloc11
    go_simp
    refine hK.out _ _ hI2.1 (fun _ => ?_)
    exact tn10010_0 rfl rfl hS hp hF hI2 (updO_at _ _ _)
  · skip
    have hI2 := hI.alloc14
    go_simp
    refine hK.out _ _ hI2.1 (fun _ => ?_)
    exact tn10001_0 rfl rfl hS hp hF hI2 (updO_at _ _ _)
set_option maxRecDepth 100000 in
set_option maxHeartbeats 2000000 in
theorem tn01000_0 {Q : Exit → Act → World → Prop} {t0 t1 t2 t4 t5 t6 t7 t8 t9 t10 t11 t12 t13 t14 t15 t16 t17 t18 t19 t20 t21 t22 t23 t24 t25 t26 t27 t28 t29 t30 t31 t32 t33 t34 t35 t36 t37 t38 t39 t40 t41 t44 t46 t47 t50 t52 t53 t54 t55 t56 t57 t58 t59 t60 t61 t62 t63 t64 t65 t66 t67 t68 t69 t70 t71 t72 t73 t74 t75 t76 t77 t78 t79 t80 t81 t82 t83 t84 t85 t86 t87 : Value} {W0 : World} {vb nl il nc ic : Nat} {na ia : Option Addr} {LN LI : List Value} {w : World} {f : Nat → Option Nat} {uN uI : Value} {g4 : Nat} {fl : Array Bool} {A : Act} (hfl : fl = #[false, true, true, false, true, false, false, true, true, false, true, false, false, false, false, false]) (hA : A = { tmps := (t0 :: t1 :: t2 :: .pointer (some ⟨vb, 0, none⟩) :: t4 :: t5 :: t6 :: t7 :: t8 :: t9 :: t10 :: t11 :: t12 :: t13 :: t14 :: t15 :: t16 :: t17 :: t18 :: t19 :: t20 :: t21 :: t22 :: t23 :: t24 :: t25 :: t26 :: t27 :: t28 :: t29 :: t30 :: t31 :: t32 :: t33 :: t34 :: t35 :: t36 :: t37 :: t38 :: t39 :: t40 :: t41 :: .pointer (some ⟨vb, 5, none⟩) :: .slice na nl nc :: t44 :: .slice (some ⟨g4, 0, none⟩) 1 1 :: t46 :: t47 :: .pointer (some ⟨vb, 4, none⟩) :: .slice ia il ic :: t50 :: .agg #[.int .i64 0, .int .i64 0, .int .i64 0, .string ⟨#[]⟩, .slice none 0 0, .slice none 0 0] :: t52 :: t53 :: t54 :: t55 :: t56 :: t57 :: t58 :: t59 :: t60 :: t61 :: t62 :: t63 :: t64 :: t65 :: t66 :: t67 :: t68 :: t69 :: t70 :: t71 :: t72 :: t73 :: t74 :: t75 :: t76 :: t77 :: t78 :: t79 :: t80 :: t81 :: t82 :: t83 :: t84 :: t85 :: t86 :: t87 :: []).toArray, defers := [] })
    (hS : SrcT W0 na ia nl il LN LI) (hp : ∀ p d v a w, Q (.panic p) (Act.put a d v) w → Q (.panic p) a w) (hF : FinT Q W0 vb nl il nc ic na ia LN LI t0 t1 t2 t4 t5 t6 t7 t9 t10 t11 t12 t13 t14 t15 t16 t17 t18 t19 t20 t21 t22 t23 t24 t25 t26 t27 t28 t29 t30 t31 t32 t33 t34 t35 t36 t37 t38 t39 t40 t55 t56 t57 t58 t59 t60 t61 t62 t63 t64 t65 t66 t67 t68 t69 t70 t71 t72 t73 t74 t75 t76 t77 t78 t79 t80 t81 t82 t83 t84 t85 t86 t87) (hI : InvT W0 w f ⟨#[122, 122]⟩ uN 0 [] uI 0 [] false true false false false) (h4 : f 1 = some g4) :
    wpAnyH Try.prog .any tnOps Q (fun w' => Below W0.heap.size W0 w') 10 fl A w := by
  subst hfl hA
  have hB0 := hI.1
  refine wpAnyH_ready (rs := [0, 6, 11, 14]) (by kernel_rfl) (by simp) ?_
  refine AllReadyH.cons rfl (fun K hK => ?_) (AllReadyH.cons rfl (fun K hK => ?_) (AllReadyH.cons rfl (fun K hK => ?_) (AllReadyH.cons rfl (fun K hK => ?_) AllReadyH.nil)))
  · skip
    have hI2 := hI.alloc0
    go_simp
    refine hK.out _ _ hI2.1 (fun _ => ?_)
    exact tn11000_0 rfl rfl hS hp hF hI2 ((updO_ne _ _ (by omega)).trans h4)
  · skip
    have hI2 := hI.alloc6
    go_simp
    refine hK.out _ _ hI2.1 (fun _ => ?_)
    exact tn01100_0 rfl rfl hS hp hF hI2 ((updO_ne _ _ (by omega)).trans h4)
  · skip
    have hI2 := hI.alloc11
    go_simp
    refine hK.out _ _ hI2.1 (fun _ => ?_)
    exact tn01010_0 rfl rfl hS hp hF hI2 ((updO_ne _ _ (by omega)).trans h4) (updO_at _ _ _)
  · skip
    have hI2 := hI.alloc14
    go_simp
    refine hK.out _ _ hI2.1 (fun _ => ?_)
    exact tn01001_0 rfl rfl hS hp hF hI2 ((updO_ne _ _ (by omega)).trans h4) (updO_at _ _ _)
set_option maxRecDepth 100000 in
set_option maxHeartbeats 2000000 in
theorem tn00100_0 {Q : Exit → Act → World → Prop} {t0 t1 t2 t4 t5 t6 t7 t8 t9 t10 t11 t12 t13 t14 t15 t16 t17 t18 t19 t20 t21 t22 t23 t24 t25 t26 t27 t28 t29 t30 t31 t32 t33 t34 t35 t36 t37 t38 t39 t40 t41 t44 t45 t46 t50 t52 t53 t54 t55 t56 t57 t58 t59 t60 t61 t62 t63 t64 t65 t66 t67 t68 t69 t70 t71 t72 t73 t74 t75 t76 t77 t78 t79 t80 t81 t82 t83 t84 t85 t86 t87 : Value} {W0 : World} {vb nl il nc ic : Nat} {na ia : Option Addr} {LN LI : List Value} {w : World} {f : Nat → Option Nat} {u47 uN : Value} {fl : Array Bool} {A : Act} (hfl : fl = #[false, true, true, false, false, false, true, true, true, false, true, false, false, false, false, false]) (hA : A = { tmps := (t0 :: t1 :: t2 :: .pointer (some ⟨vb, 0, none⟩) :: t4 :: t5 :: t6 :: t7 :: t8 :: t9 :: t10 :: t11 :: t12 :: t13 :: t14 :: t15 :: t16 :: t17 :: t18 :: t19 :: t20 :: t21 :: t22 :: t23 :: t24 :: t25 :: t26 :: t27 :: t28 :: t29 :: t30 :: t31 :: t32 :: t33 :: t34 :: t35 :: t36 :: t37 :: t38 :: t39 :: t40 :: t41 :: .pointer (some ⟨vb, 5, none⟩) :: .slice na nl nc :: t44 :: t45 :: t46 :: u47 :: .pointer (some ⟨vb, 4, none⟩) :: .slice ia il ic :: t50 :: .agg #[.int .i64 0, .int .i64 0, .int .i64 0, .string ⟨#[]⟩, .slice none 0 0, .slice none 0 0] :: t52 :: t53 :: t54 :: t55 :: t56 :: t57 :: t58 :: t59 :: t60 :: t61 :: t62 :: t63 :: t64 :: t65 :: t66 :: t67 :: t68 :: t69 :: t70 :: t71 :: t72 :: t73 :: t74 :: t75 :: t76 :: t77 :: t78 :: t79 :: t80 :: t81 :: t82 :: t83 :: t84 :: t85 :: t86 :: t87 :: []).toArray, defers := [] })
    (hS : SrcT W0 na ia nl il LN LI) (hp : ∀ p d v a w, Q (.panic p) (Act.put a d v) w → Q (.panic p) a w) (hF : FinT Q W0 vb nl il nc ic na ia LN LI t0 t1 t2 t4 t5 t6 t7 t9 t10 t11 t12 t13 t14 t15 t16 t17 t18 t19 t20 t21 t22 t23 t24 t25 t26 t27 t28 t29 t30 t31 t32 t33 t34 t35 t36 t37 t38 t39 t40 t55 t56 t57 t58 t59 t60 t61 t62 t63 t64 t65 t66 t67 t68 t69 t70 t71 t72 t73 t74 t75 t76 t77 t78 t79 t80 t81 t82 t83 t84 t85 t86 t87) (hI : InvT W0 w f ⟨#[122, 122]⟩ uN 0 [] u47 0 [] false false true false false) :
    wpAnyH Try.prog .any tnOps Q (fun w' => Below W0.heap.size W0 w') 10 fl A w := by
  subst hfl hA
  have hB0 := hI.1
  refine wpAnyH_ready (rs := [0, 4, 11, 14]) (by kernel_rfl) (by simp) ?_
  refine AllReadyH.cons rfl (fun K hK => ?_) (AllReadyH.cons rfl (fun K hK => ?_) (AllReadyH.cons rfl (fun K hK => ?_) (AllReadyH.cons rfl (fun K hK => ?_) AllReadyH.nil)))
  · skip
    have hI2 := hI.alloc0
    go_simp
    refine hK.out _ _ hI2.1 (fun _ => ?_)
    exact tn10100_0 rfl rfl hS hp hF hI2
  · skip
    have hI2 := hI.alloc4
    go_simp
    refine hK.out _ _ hI2.1 (fun _ => ?_)
    exact tn01100_0 rfl rfl hS hp hF hI2 (updO_at _ _ _)
  · skip
    have hI2 := hI.alloc11
    go_simp
    refine hK.out _ _ hI2.1 (fun _ => ?_)
    exact tn00110_0 rfl rfl hS hp hF hI2 (updO_at _ _ _)
  · skip
    have hI2 := hI.alloc14
    go_simp
    refine hK.out _ _ hI2.1 (fun _ => ?_)
    exact tn00101_0 rfl rfl hS hp hF hI2 (updO_at _ _ _)
set_option maxRecDepth 100000 in
set_option maxHeartbeats 2000000 in
theorem tn00010_0 {Q : Exit → Act → World → Prop} {t0 t1 t2 t4 t5 t6 t7 t8 t9 t10 t11 t12 t13 t14 t15 t16 t17 t18 t19 t20 t21 t22 t23 t24 t25 t26 t27 t28 t29 t30 t31 t32 t33 t34 t35 t36 t37 t38 t39 t40 t41 t44 t45 t46 t47 t50 t53 t54 t55 t56 t57 t58 t59 t60 t61 t62 t63 t64 t65 t66 t67 t68 t69 t70 t71 t72 t73 t74 t75 t76 t77 t78 t79 t80 t81 t82 t83 t84 t85 t86 t87 : Value} {W0 : World} {vb nl il nc ic : Nat} {na ia : Option Addr} {LN LI : List Value} {w : World} {f : Nat → Option Nat} {uN uI : Value} {g11 : Nat} {fl : Array Bool} {A : Act} (hfl : fl = #[false, true, true, false, false, false, false, true, true, false, true, true, false, false, false, false]) (hA : A = { tmps := (t0 :: t1 :: t2 :: .pointer (some ⟨vb, 0, none⟩) :: t4 :: t5 :: t6 :: t7 :: t8 :: t9 :: t10 :: t11 :: t12 :: t13 :: t14 :: t15 :: t16 :: t17 :: t18 :: t19 :: t20 :: t21 :: t22 :: t23 :: t24 :: t25 :: t26 :: t27 :: t28 :: t29 :: t30 :: t31 :: t32 :: t33 :: t34 :: t35 :: t36 :: t37 :: t38 :: t39 :: t40 :: t41 :: .pointer (some ⟨vb, 5, none⟩) :: .slice na nl nc :: t44 :: t45 :: t46 :: t47 :: .pointer (some ⟨vb, 4, none⟩) :: .slice ia il ic :: t50 :: .agg #[.int .i64 0, .int .i64 0, .int .i64 0, .string ⟨#[]⟩, .slice none 0 0, .slice none 0 0] :: .slice (some ⟨g11, 0, none⟩) 1 1 :: t53 :: t54 :: t55 :: t56 :: t57 :: t58 :: t59 :: t60 :: t61 :: t62 :: t63 :: t64 :: t65 :: t66 :: t67 :: t68 :: t69 :: t70 :: t71 :: t72 :: t73 :: t74 :: t75 :: t76 :: t77 :: t78 :: t79 :: t80 :: t81 :: t82 :: t83 :: t84 :: t85 :: t86 :: t87 :: []).toArray, defers := [] })
    (hS : SrcT W0 na ia nl il LN LI) (hp : ∀ p d v a w, Q (.panic p) (Act.put a d v) w → Q (.panic p) a w) (hF : FinT Q W0 vb nl il nc ic na ia LN LI t0 t1 t2 t4 t5 t6 t7 t9 t10 t11 t12 t13 t14 t15 t16 t17 t18 t19 t20 t21 t22 t23 t24 t25 t26 t27 t28 t29 t30 t31 t32 t33 t34 t35 t36 t37 t38 t39 t40 t55 t56 t57 t58 t59 t60 t61 t62 t63 t64 t65 t66 t67 t68 t69 t70 t71 t72 t73 t74 t75 t76 t77 t78 t79 t80 t81 t82 t83 t84 t85 t86 t87) (hI : InvT W0 w f ⟨#[122, 122]⟩ uN 0 [] uI 0 [] false false false true false) (h11 : f 3 = some g11) :
    wpAnyH Try.prog .any tnOps Q (fun w' => Below W0.heap.size W0 w') 10 fl A w := by
  subst hfl hA
  have hB0 := hI.1
  refine wpAnyH_ready (rs := [0, 4, 6, 14]) (by kernel_rfl) (by simp) ?_
  refine AllReadyH.cons rfl (fun K hK => ?_) (AllReadyH.cons rfl (fun K hK => ?_) (AllReadyH.cons rfl (fun K hK => ?_) (AllReadyH.cons rfl (fun K hK => ?_) AllReadyH.nil)))
  · skip
    have hI2 := hI.alloc0
    go_simp
    refine hK.out _ _ hI2.1 (fun _ => ?_)
    exact tn10010_0 rfl rfl hS hp hF hI2 ((updO_ne _ _ (by omega)).trans h11)
  · skip
    have hI2 := hI.alloc4
    go_simp
    refine hK.out _ _ hI2.1 (fun _ => ?_)
    exact tn01010_0 rfl rfl hS hp hF hI2 (updO_at _ _ _) ((updO_ne _ _ (by omega)).trans h11)
  · skip
    have hI2 := hI.alloc6
    go_simp
    refine hK.out _ _ hI2.1 (fun _ => ?_)
    exact tn00110_0 rfl rfl hS hp hF hI2 ((updO_ne _ _ (by omega)).trans h11)
  · skip
    have hI2 := hI.alloc14
    go_simp
    refine hK.out _ _ hI2.1 (fun _ => ?_)
    exact tn00011_0 rfl rfl hS hp hF hI2 ((updO_ne _ _ (by omega)).trans h11) (updO_at _ _ _)
set_option maxRecDepth 100000 in
set_option maxHeartbeats 2000000 in
theorem tn00001_0 {Q : Exit → Act → World → Prop} {t0 t1 t2 t4 t5 t6 t7 t9 t10 t11 t12 t13 t14 t15 t16 t17 t18 t19 t20 t21 t22 t23 t24 t25 t26 t27 t28 t29 t30 t31 t32 t33 t34 t35 t36 t37 t38 t39 t40 t41 t44 t45 t46 t47 t50 t52 t53 t54 t55 t56 t57 t58 t59 t60 t61 t62 t63 t64 t65 t66 t67 t68 t69 t70 t71 t72 t73 t74 t75 t76 t77 t78 t79 t80 t81 t82 t83 t84 t85 t86 t87 : Value} {W0 : World} {vb nl il nc ic : Nat} {na ia : Option Addr} {LN LI : List Value} {w : World} {f : Nat → Option Nat} {uN uI : Value} {g14 : Nat} {fl : Array Bool} {A : Act} (hfl : fl = #[false, true, true, false, false, false, false, true, true, false, true, false, false, false, true, false]) (hA : A = { tmps := (t0 :: t1 :: t2 :: .pointer (some ⟨vb, 0, none⟩) :: t4 :: t5 :: t6 :: t7 :: .pointer (some ⟨g14, 0, none⟩) :: t9 :: t10 :: t11 :: t12 :: t13 :: t14 :: t15 :: t16 :: t17 :: t18 :: t19 :: t20 :: t21 :: t22 :: t23 :: t24 :: t25 :: t26 :: t27 :: t28 :: t29 :: t30 :: t31 :: t32 :: t33 :: t34 :: t35 :: t36 :: t37 :: t38 :: t39 :: t40 :: t41 :: .pointer (some ⟨vb, 5, none⟩) :: .slice na nl nc :: t44 :: t45 :: t46 :: t47 :: .pointer (some ⟨vb, 4, none⟩) :: .slice ia il ic :: t50 :: .agg #[.int .i64 0, .int .i64 0, .int .i64 0, .string ⟨#[]⟩, .slice none 0 0, .slice none 0 0] :: t52 :: t53 :: t54 :: t55 :: t56 :: t57 :: t58 :: t59 :: t60 :: t61 :: t62 :: t63 :: t64 :: t65 :: t66 :: t67 :: t68 :: t69 :: t70 :: t71 :: t72 :: t73 :: t74 :: t75 :: t76 :: t77 :: t78 :: t79 :: t80 :: t81 :: t82 :: t83 :: t84 :: t85 :: t86 :: t87 :: []).toArray, defers := [] })
    (hS : SrcT W0 na ia nl il LN LI) (hp : ∀ p d v a w, Q (.panic p) (Act.put a d v) w → Q (.panic p) a w) (hF : FinT Q W0 vb nl il nc ic na ia LN LI t0 t1 t2 t4 t5 t6 t7 t9 t10 t11 t12 t13 t14 t15 t16 t17 t18 t19 t20 t21 t22 t23 t24 t25 t26 t27 t28 t29 t30 t31 t32 t33 t34 t35 t36 t37 t38 t39 t40 t55 t56 t57 t58 t59 t60 t61 t62 t63 t64 t65 t66 t67 t68 t69 t70 t71 t72 t73 t74 t75 t76 t77 t78 t79 t80 t81 t82 t83 t84 t85 t86 t87) (hI : InvT W0 w f ⟨#[122, 122]⟩ uN 0 [] uI 0 [] false false false false true) (h14 : f 4 = some g14) :
    wpAnyH Try.prog .any tnOps Q (fun w' => Below W0.heap.size W0 w') 10 fl A w := by
  subst hfl hA
  have hB0 := hI.1
  refine wpAnyH_ready (rs := [0, 4, 6, 11]) (by kernel_rfl) (by simp) ?_
  refine AllReadyH.cons rfl (fun K hK => ?_) (AllReadyH.cons rfl (fun K hK => ?_) (AllReadyH.cons rfl (fun K hK => ?_) (AllReadyH.cons rfl (fun K hK => ?_) AllReadyH.nil)))
  · skip
    have hI2 := hI.alloc0
    go_simp
    refine hK.out _ _ hI2.1 (fun _ => ?_)
    exact tn10001_0 rfl rfl hS hp hF hI2 ((updO_ne _ _ (by omega)).trans h14)
  · skip
    have hI2 := hI.alloc4
    go_simp
    refine hK.out _ _ hI2.1 (fun _ => ?_)
    exact tn01001_0 rfl rfl hS hp hF hI2 (updO_at _ _ _) ((updO_ne _ _ (by omega)).trans h14)
  · skip
    have hI2 := hI.alloc6
    go_simp
    refine hK.out _ _ hI2.1 (fun _ => ?_)
    exact tn00101_0 rfl rfl hS hp hF hI2 ((updO_ne _ _ (by omega)).trans h14)
  · skip
    have hI2 := hI.alloc11
    go_simp
    refine hK.out _ _ hI2.1 (fun _ => ?_)
    exact tn00011_0 rfl rfl hS hp hF hI2 (updO_at _ _ _) ((updO_ne _ _ (by omega)).trans h14)
set_option maxRecDepth 100000 in
set_option maxHeartbeats 2000000 in
theorem tn00000_0 {Q : Exit → Act → World → Prop} {t0 t1 t2 t4 t5 t6 t7 t8 t9 t10 t11 t12 t13 t14 t15 t16 t17 t18 t19 t20 t21 t22 t23 t24 t25 t26 t27 t28 t29 t30 t31 t32 t33 t34 t35 t36 t37 t38 t39 t40 t41 t44 t45 t46 t47 t50 t52 t53 t54 t55 t56 t57 t58 t59 t60 t61 t62 t63 t64 t65 t66 t67 t68 t69 t70 t71 t72 t73 t74 t75 t76 t77 t78 t79 t80 t81 t82 t83 t84 t85 t86 t87 : Value} {W0 : World} {vb nl il nc ic : Nat} {na ia : Option Addr} {LN LI : List Value} {w : World} {f : Nat → Option Nat} {uN uI : Value} {fl : Array Bool} {A : Act} (hfl : fl = #[false, true, true, false, false, false, false, true, true, false, true, false, false, false, false, false]) (hA : A = { tmps := (t0 :: t1 :: t2 :: .pointer (some ⟨vb, 0, none⟩) :: t4 :: t5 :: t6 :: t7 :: t8 :: t9 :: t10 :: t11 :: t12 :: t13 :: t14 :: t15 :: t16 :: t17 :: t18 :: t19 :: t20 :: t21 :: t22 :: t23 :: t24 :: t25 :: t26 :: t27 :: t28 :: t29 :: t30 :: t31 :: t32 :: t33 :: t34 :: t35 :: t36 :: t37 :: t38 :: t39 :: t40 :: t41 :: .pointer (some ⟨vb, 5, none⟩) :: .slice na nl nc :: t44 :: t45 :: t46 :: t47 :: .pointer (some ⟨vb, 4, none⟩) :: .slice ia il ic :: t50 :: .agg #[.int .i64 0, .int .i64 0, .int .i64 0, .string ⟨#[]⟩, .slice none 0 0, .slice none 0 0] :: t52 :: t53 :: t54 :: t55 :: t56 :: t57 :: t58 :: t59 :: t60 :: t61 :: t62 :: t63 :: t64 :: t65 :: t66 :: t67 :: t68 :: t69 :: t70 :: t71 :: t72 :: t73 :: t74 :: t75 :: t76 :: t77 :: t78 :: t79 :: t80 :: t81 :: t82 :: t83 :: t84 :: t85 :: t86 :: t87 :: []).toArray, defers := [] })
    (hS : SrcT W0 na ia nl il LN LI) (hp : ∀ p d v a w, Q (.panic p) (Act.put a d v) w → Q (.panic p) a w) (hF : FinT Q W0 vb nl il nc ic na ia LN LI t0 t1 t2 t4 t5 t6 t7 t9 t10 t11 t12 t13 t14 t15 t16 t17 t18 t19 t20 t21 t22 t23 t24 t25 t26 t27 t28 t29 t30 t31 t32 t33 t34 t35 t36 t37 t38 t39 t40 t55 t56 t57 t58 t59 t60 t61 t62 t63 t64 t65 t66 t67 t68 t69 t70 t71 t72 t73 t74 t75 t76 t77 t78 t79 t80 t81 t82 t83 t84 t85 t86 t87) (hI : InvT W0 w f ⟨#[122, 122]⟩ uN 0 [] uI 0 [] false false false false false) :
    wpAnyH Try.prog .any tnOps Q (fun w' => Below W0.heap.size W0 w') 11 fl A w := by
  subst hfl hA
  have hB0 := hI.1
  refine wpAnyH_ready (rs := [0, 4, 6, 11, 14]) (by kernel_rfl) (by simp) ?_
  refine AllReadyH.cons rfl (fun K hK => ?_) (AllReadyH.cons rfl (fun K hK => ?_) (AllReadyH.cons rfl (fun K hK => ?_) (AllReadyH.cons rfl (fun K hK => ?_) (AllReadyH.cons rfl (fun K hK => ?_) AllReadyH.nil))))
  · skip
    have hI2 := hI.alloc0
    go_simp
    refine hK.out _ _ hI2.1 (fun _ => ?_)
    exact tn10000_0 rfl rfl hS hp hF hI2
  · skip
    have hI2 := hI.alloc4
    go_simp
    refine hK.out _ _ hI2.1 (fun _ => ?_)
    exact tn01000_0 rfl rfl hS hp hF hI2 (updO_at _ _ _)
  · skip
    have hI2 := hI.alloc6
    go_simp
    refine hK.out _ _ hI2.1 (fun _ => ?_)
    exact tn00100_0 rfl rfl hS hp hF hI2
  · skip
    have hI2 := hI.alloc11
    go_simp
    refine hK.out _ _ hI2.1 (fun _ => ?_)
    exact tn00010_0 rfl rfl hS hp hF hI2 (updO_at _ _ _)
  · skip
    have hI2 := hI.alloc14
    go_simp
    refine hK.out _ _ hI2.1 (fun _ => ?_)
    exact tn00001_0 rfl rfl hS hp hF hI2 (updO_at _ _ _)
end Go.Proofs.Ytfgchdnpbbgmjaa
