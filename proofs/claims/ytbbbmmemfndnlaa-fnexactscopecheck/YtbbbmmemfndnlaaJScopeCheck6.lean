/- My own texts, joined: Lu Lw Lk Lh Mb Ea Mc LFnExactScope. -/
import Derived.Test.YtbbbmmemfndnlaaJScopeCheck4
import Derived.Test.YtbbbmmemfndnlaaJScopeCheck5
import Derived.Test.YtbbbmmemfndnlaaJScopeCheck1
import Derived.RangeFuncNested
import Derived.RangeFuncBound
import Derived.RangeFuncCalls
import Derived.RangeFuncLeaves
import Derived.RangeFuncFrom
import Derived.RangeFuncBox
import Derived.Shelf.Abstract
import Derived.Shelf.RegionOpen
import Derived.WalkKit
import Derived.OwnWalkIn
import Derived.TacticsInMore
import Derived.LoopNIn
import Derived.LoopIn
import Derived.Test.YtbbbmmemfndnlaaJScopeCheck3
import Derived.Test.YtbbbmmemfndnlaaJScopeCheck0
import Derived.Deep.RegionHeld3
/- Names from outside, by the specification: the region that goes into a tree below. -/
namespace Go.Proofs.Ytbbbmmemfndnlaa
open Go.RowKit
attribute [local go_sem] cell_alloc_is frozen_alloc_is
set_option maxRecDepth 100000 in
set_option maxHeartbeats 2000000 in
theorem lf6 {Q : Exit → Act → World → Prop} {t0 t4 t5 t6 t8 t9 t10 t11 t12 t13 t14 t15 t16 t17 t18 t19 t20 t21 t22 t23 t24 t25 t26 t27 t28 t29 t30 t31 t32 t33 t34 t35 t36 t37 t38 t39 t40 t41 t42 t43 t44 t45 : Value} {W : World} {nb b o n c j no co cb n' c' : Nat} {k m e k' m' e' : Int} {t t' : ByteArray} {a' ab ao : Option Addr} {bs bd bc : List ByteArray} {R : Value → World → Prop}
    (hn : Five W nb (.int .i64 k) (.string t) (.int .i64 m) (.int .i64 e) (.slice (some ⟨b, o, none⟩) n c))
    (hj : j < n) (hk : W.cell? ⟨b, o + j * 5, none⟩ = some (.int .i64 k') ∧ W.cell? ⟨b, o + j * 5 + 1, none⟩ = some (.string t') ∧ W.cell? ⟨b, o + j * 5 + 2, none⟩ = some (.int .i64 m') ∧ W.cell? ⟨b, o + j * 5 + 3, none⟩ = some (.int .i64 e') ∧ W.cell? ⟨b, o + j * 5 + 4, none⟩ = some (.slice a' n' c'))
    (hb : SIn W bs ab) (hbl : bs.length ≤ 1000000) (hdl : bd.length ≤ 1000000) (hbc : Hid (bs ++ bd = bc))
    (HB : ∀ w', Below W.heap.size W w' → Calls Try.prog 53 #[nodeV k t m e (some ⟨b, o, none⟩) n c, .int .i64 (j : Nat)] w' fun r w2 => (∃ a2 c2, r = .returned (.slice a2 bd.length c2) ∧ SIn w2 bd a2 ∧ (bd.length ≤ c2 ∧ c2 ≤ maxLen)) ∧ Below w'.heap.size w' w2)
    (HC : ∀ w' a2 c2, Below W.heap.size W w' → SIn w' bc a2 → bc.length ≤ c2 ∧ c2 ≤ maxLen → Calls Try.prog 25 #[nodeV k' t' m' e' a' n' c', .slice a2 bc.length c2, .slice ao no co] w' fun r w2 => ∃ v, r = .returned v ∧ R v w2 ∧ Below w'.heap.size w' w2)
    (hp : ∀ p d v a w, Q (.panic p) (Act.put a d v) w → Q (.panic p) a w) (h : ∀ W1 v2 v31 v32 v33 v34 v35 v36 v37 v38 v39 v40 v41 v42 v43, Below W.heap.size W W1 → R v2 W1 → Q .normal { tmps := (t0 :: .slice ab bs.length cb :: v2 :: .pointer (some ⟨nb, 0, none⟩) :: t4 :: t5 :: t6 :: .int .i64 (j : Nat) :: t8 :: t9 :: t10 :: t11 :: t12 :: t13 :: t14 :: t15 :: t16 :: t17 :: t18 :: t19 :: t20 :: t21 :: t22 :: t23 :: t24 :: t25 :: t26 :: t27 :: t28 :: t29 :: t30 :: v31 :: v32 :: v33 :: v34 :: v35 :: v36 :: v37 :: v38 :: v39 :: v40 :: v41 :: v42 :: v43 :: v2 :: t45 :: []).toArray, defers := [] } W1) :
    Code.wp Try.prog (Code.region 6 #[{ dst := some 31, op := Op.fieldAddr 33 (Operand.tmp 3) 3, type := 0, pos := "l6_scope.go:45", after := #[], guard := none }, { dst := some 32, op := Op.load 31 (Operand.tmp 31), type := 31, pos := "l6_scope.go:45", after := #[{ on := 0, ground := Ground.data }], guard := none }, { dst := some 33, op := Op.move (Operand.tmp 7), type := 3, pos := "l6_scope.go:45", after := #[], guard := none }, { dst := some 34, op := Op.indexAddr 31 (Operand.tmp 32) (Operand.tmp 33), type := 0, pos := "l6_scope.go:45", after := #[{ on := 1, ground := Ground.data }, { on := 2, ground := Ground.data }], guard := none }, { dst := some 35, op := Op.load 33 (Operand.tmp 34), type := 33, pos := "l6_scope.go:45", after := #[{ on := 3, ground := Ground.data }], guard := none }, { dst := some 36, op := Op.buildSlice 28 0 #[], type := 28, pos := "l6_scope.go:45", after := #[], guard := none }, { dst := some 37, op := Op.move (Operand.tmp 1), type := 28, pos := "l6_scope.go:45", after := #[], guard := none }, { dst := some 38, op := Op.call { callee := Callee.builtin Builtin.append, args := #[Operand.tmp 36, Operand.tmp 37], argTypes := #[28, 28] }, type := 28, pos := "l6_scope.go:45", after := #[{ on := 5, ground := Ground.data }, { on := 6, ground := Ground.data }], guard := none }, { dst := some 39, op := Op.load 33 (Operand.tmp 3), type := 33, pos := "l6_scope.go:45", after := #[], guard := none }, { dst := some 40, op := Op.move (Operand.tmp 7), type := 3, pos := "l6_scope.go:45", after := #[], guard := none }, { dst := some 41, op := Op.call { callee := Callee.value (Operand.func 53), args := #[Operand.tmp 39, Operand.tmp 40], argTypes := #[33, 3] }, type := 28, pos := "l6_scope.go:45", after := #[{ on := 8, ground := Ground.data }, { on := 9, ground := Ground.data }, { on := 7, ground := Ground.chain }], guard := none }, { dst := some 42, op := Op.call { callee := Callee.builtin Builtin.append, args := #[Operand.tmp 38, Operand.tmp 41], argTypes := #[28, 28] }, type := 28, pos := "l6_scope.go:45", after := #[{ on := 7, ground := Ground.data }, { on := 10, ground := Ground.data }, { on := 10, ground := Ground.chain }], guard := none }, { dst := some 43, op := Op.move (Operand.tmp 2), type := 28, pos := "l6_scope.go:45", after := #[], guard := none }, { dst := some 44, op := Op.call { callee := Callee.value (Operand.func 25), args := #[Operand.tmp 35, Operand.tmp 42, Operand.tmp 43], argTypes := #[33, 28, 28] }, type := 28, pos := "l6_scope.go:45", after := #[{ on := 4, ground := Ground.data }, { on := 11, ground := Ground.data }, { on := 12, ground := Ground.data }, { on := 11, ground := Ground.chain }], guard := none }, { dst := some 2, op := Op.assign (Operand.tmp 44), type := 28, pos := "l6_scope.go:45", after := #[{ on := 13, ground := Ground.data }, { on := 13, ground := Ground.chain }, { on := 0, ground := Ground.phase }, { on := 1, ground := Ground.phase }, { on := 2, ground := Ground.phase }, { on := 3, ground := Ground.phase }, { on := 4, ground := Ground.phase }, { on := 5, ground := Ground.phase }, { on := 6, ground := Ground.phase }, { on := 7, ground := Ground.phase }, { on := 8, ground := Ground.phase }, { on := 9, ground := Ground.phase }, { on := 10, ground := Ground.phase }, { on := 11, ground := Ground.phase }, { on := 12, ground := Ground.phase }, { on := 13, ground := Ground.phase }], guard := none }] true) Q { tmps := (t0 :: .slice ab bs.length cb :: .slice ao no co :: .pointer (some ⟨nb, 0, none⟩) :: t4 :: t5 :: t6 :: .int .i64 (j : Nat) :: t8 :: t9 :: t10 :: t11 :: t12 :: t13 :: t14 :: t15 :: t16 :: t17 :: t18 :: t19 :: t20 :: t21 :: t22 :: t23 :: t24 :: t25 :: t26 :: t27 :: t28 :: t29 :: t30 :: t31 :: t32 :: t33 :: t34 :: t35 :: t36 :: t37 :: t38 :: t39 :: t40 :: t41 :: t42 :: t43 :: t44 :: t45 :: []).toArray, defers := [] } W := by
  obtain ⟨i0, hi, hz0, hz1, hz2⟩ := info_parts textInfo
  obtain ⟨hL, hss⟩ := hb.lies
  have hbox : nb < W.heap.size := hn.lt
  have hkl : b < W.heap.size := World.block_lt_of_cell? _ _ hk.1
  have HN : Hid (∀ w', Below W.heap.size W w' → Five w' nb (.int .i64 k) (.string t) (.int .i64 m) (.int .i64 e) (.slice (some ⟨b, o, none⟩) n c)) := fun w' h => hn.below h hbox
  have HK : Hid (∀ w', Below W.heap.size W w' → (w'.cell? ⟨b, o + j * 5, none⟩ = some (.int .i64 k') ∧ w'.cell? ⟨b, o + j * 5 + 1, none⟩ = some (.string t') ∧ w'.cell? ⟨b, o + j * 5 + 2, none⟩ = some (.int .i64 m') ∧ w'.cell? ⟨b, o + j * 5 + 3, none⟩ = some (.int .i64 e') ∧ w'.cell? ⟨b, o + j * 5 + 4, none⟩ = some (.slice a' n' c'))) := fun w' h => ⟨(h.cell (p := ⟨b, o + j * 5, none⟩) hkl).trans hk.1, (h.cell (p := ⟨b, o + j * 5 + 1, none⟩) hkl).trans hk.2.1, (h.cell (p := ⟨b, o + j * 5 + 2, none⟩) hkl).trans hk.2.2.1, (h.cell (p := ⟨b, o + j * 5 + 3, none⟩) hkl).trans hk.2.2.2.1, (h.cell (p := ⟨b, o + j * 5 + 4, none⟩) hkl).trans hk.2.2.2.2⟩
  have HS1 : Hid (∀ w', Below W.heap.size W w' → Src w' ab bs.length (texts bs)) := fun w' h => Lies.src (sz := 1) (hL.grow h) (by unfold texts; simp) (by omega)
  have H1 : Hid (∀ (l : List ByteArray), ∀ u ∈ texts l, u.oneCell' = true) := fun l u hu => by obtain ⟨s, _, rfl⟩ := List.mem_map.1 hu; rfl
  have HL : Hid (∀ (l : List ByteArray), (texts l).length = l.length * 1) := fun l => by unfold texts; simp
  have HSS : Hid (∀ s ∈ bs, s.size ≤ maxLen) := hss
  have hj' : (j : Int) < (n : Int) := by omega
  clear hn hk hb hL hss
  have hB0 : Below W.heap.size W W.drew := (Below.refl _ W).drew
  refine wp_region_held_drew (S := fun w' => Below W.heap.size W w') (by kernel_rfl) hB0 (fun hHeld => ?_)
  generalize W.drew = Wd at *
  have hSw : Below W.heap.size W Wd := hB0
  refine wpAnyH_take (i := 0) (v := .pointer (some ⟨nb, 4, none⟩)) rfl (by kernel_rfl) (by kernel_rfl) (by kernel_rfl) (fun _ _ _ h => hp _ _ _ _ _ h) (Or.inl ⟨by rfl, ?_⟩) (by assumption) ?_
  · intro w hSw
    (try dsimp only at hSw)
    go_simp
  (try simp only [Act.put, List.getElem_toArray, List.getElem_cons_zero, List.setIfInBounds_toArray, List.set_cons_zero, List.set_cons_succ])
  refine wpAnyH_take (i := 1) (v := .slice (some ⟨b, o, none⟩) n c) rfl (by kernel_rfl) (by kernel_rfl) (by kernel_rfl) (fun _ _ _ h => hp _ _ _ _ _ h) (Or.inl ⟨by rfl, ?_⟩) (by assumption) ?_
  · intro w hSw
    (try dsimp only at hSw)
    (have hN := HN.out _ hSw; have hK := HK.out _ hSw; obtain ⟨⟨x0, x1, x2, x3, x4⟩, _⟩ := hN; obtain ⟨y0, y1, y2, y3, y4⟩ := hK; go_simp)
  (try simp only [Act.put, List.getElem_toArray, List.getElem_cons_zero, List.getElem_cons_succ, List.setIfInBounds_toArray, List.set_cons_zero, List.set_cons_succ])
  refine wpAnyH_take (i := 2) (v := .int .i64 (j : Nat)) rfl (by kernel_rfl) (by kernel_rfl) (by kernel_rfl) (fun _ _ _ h => hp _ _ _ _ _ h) (Or.inl ⟨by rfl, ?_⟩) (by assumption) ?_
  · intro w hSw
    (try dsimp only at hSw)
    go_simp
  (try simp only [Act.put, List.getElem_toArray, List.getElem_cons_zero, List.getElem_cons_succ, List.setIfInBounds_toArray, List.set_cons_zero, List.set_cons_succ])
  refine wpAnyH_take (i := 3) (v := .pointer (some ⟨b, o + j * 5, none⟩)) rfl (by kernel_rfl) (by kernel_rfl) (by kernel_rfl) (fun _ _ _ h => hp _ _ _ _ _ h) (Or.inl ⟨by rfl, ?_⟩) (by assumption) ?_
  · intro w hSw
    (try dsimp only at hSw)
    (go_simp <;> omega)
  (try simp only [Act.put, List.getElem_toArray, List.getElem_cons_zero, List.getElem_cons_succ, List.setIfInBounds_toArray, List.set_cons_zero, List.set_cons_succ])
  refine wpAnyH_take (i := 4) (v := nodeV k' t' m' e' a' n' c') rfl (by kernel_rfl) (by kernel_rfl) (by kernel_rfl) (fun _ _ _ h => hp _ _ _ _ _ h) (Or.inl ⟨by rfl, ?_⟩) (by assumption) ?_
  · intro w hSw
    (try dsimp only at hSw)
    (have hN := HN.out _ hSw; have hK := HK.out _ hSw; obtain ⟨⟨x0, x1, x2, x3, x4⟩, _⟩ := hN; obtain ⟨y0, y1, y2, y3, y4⟩ := hK; go_simp)
  (try simp only [Act.put, List.getElem_toArray, List.getElem_cons_zero, List.getElem_cons_succ, List.setIfInBounds_toArray, List.set_cons_zero, List.set_cons_succ])
  refine wpAnyH_take (i := 6) (v := .slice ab bs.length cb) rfl (by kernel_rfl) (by kernel_rfl) (by kernel_rfl) (fun _ _ _ h => hp _ _ _ _ _ h) (Or.inl ⟨by rfl, ?_⟩) (by assumption) ?_
  · intro w hSw
    (try dsimp only at hSw)
    go_simp
  (try simp only [Act.put, List.getElem_toArray, List.getElem_cons_zero, List.getElem_cons_succ, List.setIfInBounds_toArray, List.set_cons_zero, List.set_cons_succ])
  refine wpAnyH_take (i := 8) (v := nodeV k t m e (some ⟨b, o, none⟩) n c) rfl (by kernel_rfl) (by kernel_rfl) (by kernel_rfl) (fun _ _ _ h => hp _ _ _ _ _ h) (Or.inl ⟨by rfl, ?_⟩) (by assumption) ?_
  · intro w hSw
    (try dsimp only at hSw)
    (have hN := HN.out _ hSw; have hK := HK.out _ hSw; obtain ⟨⟨x0, x1, x2, x3, x4⟩, _⟩ := hN; obtain ⟨y0, y1, y2, y3, y4⟩ := hK; go_simp)
  (try simp only [Act.put, List.getElem_toArray, List.getElem_cons_zero, List.getElem_cons_succ, List.setIfInBounds_toArray, List.set_cons_zero, List.set_cons_succ])
  refine wpAnyH_take (i := 9) (v := .int .i64 (j : Nat)) rfl (by kernel_rfl) (by kernel_rfl) (by kernel_rfl) (fun _ _ _ h => hp _ _ _ _ _ h) (Or.inl ⟨by rfl, ?_⟩) (by assumption) ?_
  · intro w hSw
    (try dsimp only at hSw)
    go_simp
  (try simp only [Act.put, List.getElem_toArray, List.getElem_cons_zero, List.getElem_cons_succ, List.setIfInBounds_toArray, List.set_cons_zero, List.set_cons_succ])
  refine wpAnyH_take (i := 12) (v := .slice ao no co) rfl (by kernel_rfl) (by kernel_rfl) (by kernel_rfl) (fun _ _ _ h => hp _ _ _ _ _ h) (Or.inl ⟨by rfl, ?_⟩) (by assumption) ?_
  · intro w hSw
    (try dsimp only at hSw)
    go_simp
  (try simp only [Act.put, List.getElem_toArray, List.getElem_cons_zero, List.getElem_cons_succ, List.setIfInBounds_toArray, List.set_cons_zero, List.set_cons_succ])
  clear hSw hHeld
  refine wpAnyH_ready (rs := [5]) (by kernel_rfl) (by simp) ?_
  refine AllReadyH.cons rfl (fun K hK => ?_) AllReadyH.nil
  go_simp
  have hown := own_nothing Wd W.heap.size 1 9 hB0.size
  have hB1 := hB0.alloc hB0.size (.cells #[] 9)
  clear hB0
  have hB0 := hB1
  clear hB1
  refine hK.out _ _ hB0 (fun hHeld => ?_)
  clear hK K hHeld
  obtain ⟨vo, hvo⟩ : ∃ vo, vo = Value.slice (some ⟨Wd.heap.size, 0, none⟩) 0 0 := ⟨_, rfl⟩
  rw [← hvo] at hown ⊢
  clear hvo
  generalize Wd.alloc (.cells #[] 9) = W1 at *
  (try simp only [Act.put, List.getElem_toArray, List.getElem_cons_zero, List.getElem_cons_succ, List.setIfInBounds_toArray, List.set_cons_zero, List.set_cons_succ])
  refine wpAnyH_ready (rs := [7]) (by kernel_rfl) (by simp) ?_
  refine AllReadyH.cons rfl (fun K hK => ?_) AllReadyH.nil
  refine wp_append_lie W1 _ _ 28 rfl W.heap.size 9 i0 _ 1 16 Try.underlying28 hi hz0 hz1 hz2 rfl (by decide) vo 0 [] rfl hown ab bs.length cb (texts bs) rfl (HL.out _) (HS1.out _ hB0) (H1.out _) (by unfold maxLen; omega) (by omega) hB0.size ?_
  intro vo2 W2 hown2 hgr hbl
  have hB1 := below_grown hB0 hown hgr hB0.size
  clear hB0 hown hgr hbl
  have hB0 := hB1
  clear hB1
  rw [List.nil_append, Nat.zero_add] at hown2
  refine hK.out _ _ hB0 (fun hHeld => ?_)
  clear hK K hHeld
  (try simp only [Act.put, List.getElem_toArray, List.getElem_cons_zero, List.getElem_cons_succ, List.setIfInBounds_toArray, List.set_cons_zero, List.set_cons_succ])
  refine wpAnyH_ready (rs := [10]) (by kernel_rfl) (by simp) ?_
  refine AllReadyH.cons rfl (fun K hK => ?_) AllReadyH.nil
  go_simp
  refine (HB _ hB0).mono ?_
  rintro r W3 ⟨⟨a2, c2, rfl, hS2, hc2⟩, hb⟩
  have hB1 := hB0.trans (hb.mono hB0.size)
  have hown3 := own_keep hown2 hb
  clear hown2
  go_wp2_with fail
  clear hB0 hb
  have hB0 := hB1
  clear hB1
  refine hK.out _ _ hB0 (fun hHeld => ?_)
  clear hK K hHeld
  (try simp only [Act.put, List.getElem_toArray, List.getElem_cons_zero, List.getElem_cons_succ, List.setIfInBounds_toArray, List.set_cons_zero, List.set_cons_succ])
  obtain ⟨hL2, hss2⟩ := hS2.lies
  have hsr2 := Lies.src (sz := 1) hL2 (HL.out _) (by omega)
  refine wpAnyH_ready (rs := [11]) (by kernel_rfl) (by simp) ?_
  refine AllReadyH.cons rfl (fun K hK => ?_) AllReadyH.nil
  refine wp_append_lie W3 _ _ 28 rfl W.heap.size 9 i0 _ 1 16 Try.underlying28 hi hz0 hz1 hz2 rfl (by decide) vo2 bs.length (texts bs) rfl hown3 a2 bd.length c2 (texts bd) rfl (HL.out _) hsr2 (H1.out _) (by unfold maxLen; omega) (by omega) hB0.size ?_
  intro vo3 W4 hown4 hgr hbl
  have hB1 := below_grown hB0 hown3 hgr hB0.size
  have hF : ∃ a3 c3, vo3 = .slice a3 bc.length c3 ∧ SIn W4 bc a3 ∧ (bc.length ≤ c3 ∧ c3 ≤ maxLen) := by
    obtain ⟨a3, c3, e1, e2, e3, -⟩ := own_lies hown4
    rw [← List.length_append, hbc.out] at e1 e3
    refine ⟨a3, c3, e1, Lies.sin (by rw [← hbc.out]; unfold texts at e2 ⊢; rw [List.map_append]; exact e2) (fun s hs => ?_), e3⟩
    rw [← hbc.out] at hs
    rcases List.mem_append.1 hs with hs | hs
    · exact HSS.out s hs
    · exact hss2 s hs
  clear hB0 hown3 hown4 hgr hbl hL2 hsr2 hS2
  have hB0 := hB1
  clear hB1
  obtain ⟨a3, c3, rfl, hS3, hc3⟩ := hF
  refine hK.out _ _ hB0 (fun hHeld => ?_)
  clear hK K hHeld
  (try simp only [Act.put, List.getElem_toArray, List.getElem_cons_zero, List.getElem_cons_succ, List.setIfInBounds_toArray, List.set_cons_zero, List.set_cons_succ])
  refine wpAnyH_ready (rs := [13]) (by kernel_rfl) (by simp) ?_
  refine AllReadyH.cons rfl (fun K hK => ?_) AllReadyH.nil
  go_simp
  refine (HC _ a3 c3 hB0 hS3 hc3).mono ?_
  rintro r W5 ⟨v, rfl, hR, hb⟩
  have hB1 := hB0.trans (hb.mono hB0.size)
  go_wp2_with fail
  clear hB0 hb
  have hB0 := hB1
  clear hB1
  refine hK.out _ _ hB0 (fun hHeld => ?_)
  clear hK K hHeld
  (try simp only [Act.put, List.getElem_toArray, List.getElem_cons_zero, List.getElem_cons_succ, List.setIfInBounds_toArray, List.set_cons_zero, List.set_cons_succ])
  have hSw : Below W.heap.size W W5 := hB0
  refine wpAnyH_take (i := 14) (v := v) rfl (by kernel_rfl) (by kernel_rfl) (by kernel_rfl) (fun _ _ _ h => hp _ _ _ _ _ h) (Or.inl ⟨by rfl, ?_⟩) (by assumption) ?_
  · intro w hSw
    (try dsimp only at hSw)
    go_simp
  (try simp only [Act.put, List.getElem_toArray, List.getElem_cons_zero, List.getElem_cons_succ, List.setIfInBounds_toArray, List.set_cons_zero, List.set_cons_succ])
  refine wpAnyH_done (by kernel_rfl) ?_ _
  exact h _ _ _ _ _ _ _ _ _ _ _ _ _ _ _ hB0 hR
end Go.Proofs.Ytbbbmmemfndnlaa
/- Names from outside, by the specification: l6Frees, Frees. -/
namespace Go.Proofs.Ytbbbmmemfndnlaa
open Go.RowKit
attribute [local go_sem] cell_alloc_is frozen_alloc_is
set_option maxRecDepth 100000 in
set_option maxHeartbeats 2000000 in
theorem l6Frees_all (N : Nat) : ∀ (k : Int) (t : ByteArray) (m e : Int) (a : Option Addr) (c : Nat) (F : Fo) (bound : List ByteArray) (ab : Option Addr) (cb : Nat) (ns : List ByteArray) (ao : Option Addr) (co : Nat) (w : World), F.size < N → F.In w a → F.len ≤ c → c ≤ maxLen → t.size ≤ maxLen → lamOk k F → F.Lam → SIn w bound ab → bound.length ≤ cb ∧ cb ≤ maxLen → bound.length + F.size ≤ 500000 → SIn w ns ao → ns.length ≤ co ∧ co ≤ maxLen → ns.length + F.size + 1 ≤ 500000 →
    Calls Try.prog 25 #[nodeV k t m e a F.len c, .slice ab bound.length cb, .slice ao ns.length co] w fun r w' => (∃ a' c', r = .returned (.slice a' (frs1 k t F bound ns).length c') ∧ SIn w' (frs1 k t F bound ns) a' ∧ ((frs1 k t F bound ns).length ≤ c' ∧ c' ≤ maxLen)) ∧ Below w.heap.size w w' := by
  induction N with
  | zero => intro k t m e a c F bound ab cb ns ao co w hF; omega
  | succ N ih =>
    intro k t m e a c F bound ab cb ns ao co w hF hin hl hc ht hlam hLam hSb hcb hbz hS hco hsz
    have hll := F.len_le
    have hc2 : c ≤ 2 ^ 63 - 1 := hc
    have hb0 : Below w.heap.size w (w.alloc (.cells #[.int .i64 k, .string t, .int .i64 m, .int .i64 e, .slice a F.len c] 33)) := (Below.refl _ _).alloc (Nat.le_refl _) _
    have f0 := Five.new w (.int .i64 k) (.string t) (.int .i64 m) (.int .i64 e) (.slice a F.len c) 33
    have hHas := l2Has_sin bound ab cb t _ (hSb.grow hb0) (by omega)
    have hP := l6Put_any ns ao co t _ (hS.grow hb0) hco (by omega) ht
    have hFr := fun W hW => l6From_any k t m e a c F W hlam.1 hW
    by_cases hc6 : k = 6 ∧ hasT t bound = false
    · have hI : Hid (frs1 k t F bound ns = put1 t ns) := if_pos hc6
      obtain ⟨rfl, hh⟩ := hc6
      rw [hh] at hHas
      clear hin ih hlam hLam hFr
      go_enter Try.func25, Try.ntmps25
      go_wp2_with fail
      refine hHas.mono ?_
      rintro r w1 ⟨rfl, rfl⟩
      go_wp2_with fail
      refine hP.mono ?_
      rintro r w1 ⟨⟨a', c', rfl, h1, h2⟩, hb1⟩
      have HB := hb0.trans (hb1.mono hb0.size)
      clear hP hb0 hb1 hHas f0
      go_wp2_with fail
      go_ret
      rw [hI.out]
      exact ⟨⟨a', c', rfl, h1, h2⟩, HB⟩
    · have hI : Hid (frs1 k t F bound ns = F.frs k t F bound 0 ns) := if_neg hc6
      have hcs : ((k == 6) = true ∧ hasT t bound = true) ∨ (k == 6) = false := by
        by_cases hk : k = 6
        · left
          refine ⟨by simp [hk], ?_⟩
          cases hq : hasT t bound
          · exact absurd ⟨hk, hq⟩ hc6
          · rfl
        · exact .inr (by simp [hk])
      clear hc6 hP
      have HLm : Hid (lamOk k F ∧ F.Lam) := ⟨hlam, hLam⟩
      have HSb : Hid (∀ w', Below w.heap.size w w' → SIn w' bound ab) := fun w' h => hSb.grow h
      have HIn : Hid (∀ w', Below w.heap.size w w' → F.In w' a) := fun w' h => hin.grow h
      have HFr := hFr (w.alloc (.cells #[.int .i64 k, .string t, .int .i64 m, .int .i64 e, .slice a F.len c] 33)) (Nat.le_trans hl hc)
      have hfp : fromP k F ≤ F.len := by unfold fromP; split <;> omega
      have HD0 : Hid ((F.drop (fromP k F)).frs k t F bound (fromP k F) ns = F.frs k t F bound 0 ns) := by have := frs_drop k t F bound ns F (fromP k F) 0 (by omega); rw [Nat.zero_add] at this; exact this
      have HS0 : Hid (fromP k F + (F.drop (fromP k F)).len = F.len ∧ fromP k F + (F.drop (fromP k F)).size ≤ F.size) := ⟨drop_len F hfp, drop_size F hfp⟩
      clear hFr hSb hlam hLam
      obtain ⟨j0, hj0⟩ : ∃ j0, fromP k F = j0 := ⟨_, rfl⟩
      rw [hj0] at HFr HD0 HS0 hfp
      have HJ0 : Hid (fromP k F = j0) := hj0
      clear hj0
      rcases hcs with ⟨hk, hh⟩ | hk
      all_goals first | rw [hh] at hHas | clear hHas
      all_goals go_enter Try.func25, Try.ntmps25
      all_goals go_wp2_with fail
      all_goals first
        | (refine hHas.mono ?_
           rintro r w1 ⟨rfl, rfl⟩
           clear hHas
           go_wp2_with fail)
        | skip
      all_goals
        refine HFr.mono ?_
        rintro r w1 ⟨rfl, hb1⟩
        have hB1 := hb0.trans (hb1.mono hb0.size)
        have f1 := f0.below hb1 f0.lt
        clear hb0 hb1 HFr f0
        go_wp2_with fail
        go_loopw [2, 7] (fun o i wr => ∃ (j : Nat) (G : Fo) (nj : List ByteArray) (aj : Option Addr) (cj : Nat), i = .int .i64 j ∧ o = .slice aj nj.length cj ∧ (F.drop j = G ∧ j0 ≤ j) ∧ (j + G.len = F.len ∧ j + G.size ≤ F.size) ∧ (nj.length + G.size ≤ ns.length + F.size ∧ G.frs k t F bound j nj = F.frs k t F bound 0 ns) ∧ (SIn wr nj aj ∧ nj.length ≤ cj ∧ cj ≤ maxLen) ∧ (Five wr w.heap.size (.int .i64 k) (.string t) (.int .i64 m) (.int .i64 e) (.slice a F.len c)) ∧ Below w.heap.size w wr) (fun _ i _ => F.len - (intOf i).toNat)
        case atStart =>
          refine ⟨j0, F.drop j0, ns, ao, co, rfl, rfl, ⟨rfl, Nat.le_refl _⟩, ⟨HS0.out.1, HS0.out.2⟩, ⟨by have := HS0.out.2; omega, HD0.out⟩, ⟨hS.grow hB1, hco⟩, f1, hB1⟩
        case round =>
          obtain ⟨j, G, nj, aj, cj, rfl, rfl, ⟨hd, hjj0⟩, ⟨hj1, hj2⟩, ⟨hq1, hq3⟩, ⟨hSj, hcj⟩, hbox, hb⟩ := hrel
          have HQ : Hid (G.frs k t F bound j nj = F.frs k t F bound 0 ns) := hq3
          have HG : Hid (F.drop j = G) := hd
          have hcj2 : cj ≤ 2 ^ 63 - 1 := hcj.2
          have hcj1 := hcj.1
          clear hq3 hd
          cases G with
          | nil =>
            have hj' : j = F.len := by simpa [Fo.len] using hj1
            have hlt : ¬ (j : Int) < (F.len : Int) := by omega
            have HF : Hid (SIn wr (frs1 k t F bound ns) aj ∧ ((frs1 k t F bound ns).length ≤ cj ∧ cj ≤ maxLen) ∧ nj.length = (frs1 k t F bound ns).length) := by
              have e : nj = F.frs k t F bound 0 ns := HQ.out
              unfold Hid
              rw [hI.out, ← e]
              exact ⟨hSj, hcj, rfl⟩
            obtain ⟨⟨x0, x1, x2, x3, x4⟩, _⟩ := id hbox
            clear hj1 hj2 hj' hSj hcj hS hin ih hq1 f1 hB1
            go_wp2_with fail
            go_ret
            obtain ⟨f1, f2, f3⟩ := HF.out
            exact ⟨⟨aj, cj, (by rw [f3]; rfl), f1, f2⟩, hb⟩
          | cons k' t' m' e' a' c' kids next =>
            have hlt : (j : Int) < (F.len : Int) := by have : j + (next.len + 1) = F.len := hj1; omega
            have hjl : j < F.len := by omega
            have hnl := next.len_le
            have hsz2 : nj.length + (kids.size + 1 + next.size) ≤ ns.length + F.size := hq1
            have hsz3 : j + (kids.size + 1 + next.size) ≤ F.size := hj2
            have hln : j + (next.len + 1) = F.len := hj1
            obtain ⟨b, o, rfl, hfr⟩ : ∃ b o, a = some ⟨b, o, none⟩ ∧ F.From w b o := by
              rcases hin with h | ⟨b, o, e1, e2⟩
              · rw [h] at hjl; exact absurd hjl (Nat.not_lt_zero _)
              · exact ⟨b, o, e1, e2⟩
            have hfr2 := drop_from F (j := j) (Fo.from_grow hb F b o hfr)
            rw [HG.out] at hfr2
            obtain ⟨hK5, hk2, hc1, hc3, ht', hn⟩ := hfr2
            have hLm2 := drop_lam F (j := j) HLm.out.2
            rw [HG.out] at hLm2
            have HCx := fun (w' : World) (a2 : Option Addr) (c2 : Nat) (h1 : Below wr.heap.size wr w') h2 h3 h4 => ih k' t' m' e' a' c' kids (bound ++ bnd k t F j) a2 c2 nj aj cj w' (by omega) (by
                rcases hk2 with h | ⟨b', o', e1, e2⟩
                · exact .inl h
                · exact .inr ⟨b', o', e1, Fo.from_grow h1 kids b' o' e2⟩) hc1 hc3 ht' hLm2.1 hLm2.2.1 h2 h3 h4 (hSj.grow h1) hcj (by omega)
            have hbl := bnd_len k t F j hjl
            have hbz2 : (bound ++ bnd k t F j).length + kids.size ≤ 500000 := by rw [List.length_append]; omega
            have HBx := fun (w' : World) (h1 : Below wr.heap.size wr w') => l6Bound_any k t m e (some ⟨b, o, none⟩) c j F w' (.inr ⟨b, o, rfl, Fo.from_grow (hb.trans (h1.mono hb.size)) F b o hfr⟩) hl hc ht (txts_in hfr) (by omega) (by omega)
            have HQ2 : Hid (next.frs k t F bound (j + 1) (frs1 k' t' kids (bound ++ bnd k t F j) nj) = F.frs k t F bound 0 ns) := by
              have e := HQ.out
              unfold Hid
              have e2 : (Fo.cons k' t' m' e' a' c' kids next).frs k t F bound j nj = next.frs k t F bound (j + 1) (if j < fromP k F then nj else frs1 k' t' kids (bound ++ bnd k t F j) nj) := rfl
              rw [e2] at e
              rw [← e, if_neg (by rw [HJ0.out]; omega)]
            have HL : Hid ((frs1 k' t' kids (bound ++ bnd k t F j) nj).length ≤ nj.length + kids.size + 1) := by
              unfold Hid frs1
              have h1 := frs_len kids k' t' kids (bound ++ bnd k t F j) 0 nj
              have h2 := put1_len t' nj
              split <;> omega
            have HN : Hid (F.drop (j + 1) = next) := Fo.drop_next HG.out
            have hSbj := HSb.out wr hb
            have hbl5 : bound.length ≤ 1000000 := by omega
            have hdl5 : (bnd k t F j).length ≤ 1000000 := by omega
            obtain ⟨⟨x0, x1, x2, x3, x4⟩, _⟩ := id hbox
            have HR : Hid (nj.length + kids.size + 1 + next.size ≤ ns.length + F.size ∧ j + 1 + next.len = F.len ∧ j + 1 + next.size ≤ F.size) := ⟨by omega, by omega, by omega⟩
            have HJJ : Hid (j0 ≤ j) := hjj0
            clear hj1 hj2 hin hq1 hS ih HQ hSj hcj hk2 hn hsz2 hsz3 hln hnl f1 hB1
            go_wp2_with fail
            refine lf6 (k := k) (t := t) (m := m) (e := e) (a' := a') (n' := kids.len) (c' := c') (k' := k') (t' := t') (m' := m') (e' := e') (bd := bnd k t F j) (bc := bound ++ bnd k t F j) (R := fun v w2 => ∃ a2 c2, v = .slice a2 (frs1 k' t' kids (bound ++ bnd k t F j) nj).length c2 ∧ SIn w2 (frs1 k' t' kids (bound ++ bnd k t F j) nj) a2 ∧ ((frs1 k' t' kids (bound ++ bnd k t F j) nj).length ≤ c2 ∧ c2 ≤ maxLen))
              hbox hjl hK5 hSbj hbl5 hdl5 rfl HBx (fun w' a2 c2 h1 h2 h3 => (HCx w' a2 c2 h1 h2 h3 hbz2).mono (by rintro r w2 ⟨⟨a3, c3, rfl, h4, h5⟩, h6⟩; exact ⟨_, rfl, ⟨a3, c3, rfl, h4, h5⟩, h6⟩)) (fun _ d _ _ _ h => by cases d <;> exact h) ?_
            intro W1 v2 v31 v32 v33 v34 v35 v36 v37 v38 v39 v40 v41 v42 v43 hb1 hv2
            obtain ⟨a2, c2, rfl, hS2, hc2'⟩ := hv2
            have hb2 := hb.trans (hb1.mono hb.size)
            have hbx := hbox.below hb1 hbox.lt
            clear hb1 hb hbox hK5 hSbj HBx HCx hbz2 hbl x0 x1 x2 x3 x4
            go_wp2_with fail
            go_round
            case rel =>
              refine ⟨j + 1, next, frs1 k' t' kids (bound ++ bnd k t F j) nj, a2, c2, by go_num, rfl, ⟨HN.out, by have := HJJ.out; omega⟩, ⟨HR.out.2.1, HR.out.2.2⟩, ⟨by have := HL.out; have := HR.out.1; omega, HQ2.out⟩, ⟨hS2, hc2'⟩, hbx, hb2⟩
            case measure => simp [intOf]; omega
/-- the names from outside of a tree -/
noncomputable def freesOf (k : Int) (t : ByteArray) (m e : Int) (F : Fo) : List ByteArray := by
  classical
  exact if ¬ k = 23 ∧ TreeGood k t m e F then frs1 k t F [] [] else []
theorem freesOf_yes {k : Int} {t : ByteArray} {m e : Int} {F : Fo} (h : ¬ k = 23 ∧ TreeGood k t m e F) : freesOf k t m e F = frs1 k t F [] [] := by
  unfold freesOf; exact if_pos h
theorem freesOf_no {k : Int} {t : ByteArray} {m e : Int} {F : Fo} (h : ¬ (¬ k = 23 ∧ TreeGood k t m e F)) : freesOf k t m e F = [] := by
  unfold freesOf; exact if_neg h
theorem sFrees_any (k : Int) (t : ByteArray) (m e : Int) (a : Option Addr) (c : Nat) (F : Fo) (w : World) (hF : F.size ≤ 1050000) (hin : F.In w a) (hl : F.len ≤ c) (hc : c ≤ maxLen) (ht : t.size ≤ maxLen) :
    Calls Try.prog 8 #[nodeV k t m e a F.len c] w fun r w' => (∃ a' c', r = .returned (.slice a' (freesOf k t m e F).length c') ∧ SIn w' (freesOf k t m e F) a' ∧ ((freesOf k t m e F).length ≤ c' ∧ c' ≤ maxLen)) ∧ Below w.heap.size w w' := by
  have hb0 : Below w.heap.size w (w.alloc (.cells #[.int .i64 k, .string t, .int .i64 m, .int .i64 e, .slice a F.len c] 33)) := (Below.refl _ _).alloc (Nat.le_refl _) _
  have A0 : Row (w.alloc (.cells #[.int .i64 k, .string t, .int .i64 m, .int .i64 e, .slice a F.len c] 33)) w.heap.size [.int .i64 k, .string t, .int .i64 m, .int .i64 e, .slice a F.len c] := Row.new w _ _
  have HI := hin.grow hb0
  go_enter Try.func8, Try.ntmps8
  go_wp2_with fail
  refine (sTreeOk_any k t m e a c F _ (by omega) HI hl hc ht).mono ?_
  rintro r w1 ⟨⟨q, rfl, hq⟩, hb1⟩
  have A1 := A0.below hb1 A0.lt
  have HI1 := HI.grow hb1
  have hB1 := hb0.trans (hb1.mono hb0.size)
  have HQ : Hid (q = true ↔ (¬ k = 23 ∧ TreeGood k t m e F)) := hq
  clear hq hb0 hb1 HI A0 hin
  generalize w.heap.size = vb at A1
  have y0 := (A1 0 _ rfl).1
  have y1 := (A1 1 _ rfl).1
  have y2 := (A1 2 _ rfl).1
  have y3 := (A1 3 _ rfl).1
  have y4 := (A1 4 _ rfl).1
  cases q
  · have HN : Hid (freesOf k t m e F = []) := freesOf_no fun h => by have := HQ.out.2 h; cases this
    clear HQ HI1 y0 y1 y2 y3 y4 A1
    go_wp2_with fail
    go_ret
    rw [HN.out]
    exact ⟨⟨_, 0, rfl, .inl rfl, Nat.le_refl _, Nat.zero_le _⟩, hB1.alloc hB1.size _⟩
  · have hgd := HQ.out.1 rfl
    have HN : Hid (freesOf k t m e F = frs1 k t F [] []) := freesOf_yes hgd
    obtain ⟨g1, g2, g3⟩ := good_lam hgd.2
    have hb2 : Below w1.heap.size w1 ((w1.alloc (.cells #[] 9)).alloc (.cells #[] 9)) := ((Below.refl _ _).alloc (Nat.le_refl _) _).alloc (by simp) _
    have HC := l6Frees_all (F.size + 1) k t m e a c F [] (some ⟨w1.heap.size, 0, none⟩) 0 [] (some ⟨w1.heap.size + 1, 0, none⟩) 0 _ (Nat.lt_succ_self _) (HI1.grow hb2) hl hc ht g1 g2 (.inl rfl) ⟨Nat.le_refl _, Nat.zero_le _⟩ (by show 0 + F.size ≤ 500000; omega) (.inl rfl) ⟨Nat.le_refl _, Nat.zero_le _⟩ (by show 0 + F.size + 1 ≤ 500000; omega)
    have hB2 := hB1.trans (hb2.mono hB1.size)
    clear HQ HI1 A1 hb2 hB1 hgd g1 g2 g3
    go_wp2_with fail
    refine HC.mono ?_
    rintro r w2 ⟨⟨a2, c2, rfl, h1, h2⟩, hb3⟩
    have HF : Hid (SIn w2 (frs1 k t F [] []) a2 ∧ ((frs1 k t F [] []).length ≤ c2 ∧ c2 ≤ maxLen)) := ⟨h1, h2⟩
    have hB3 := hB2.trans (hb3.mono hB2.size)
    clear HC h1 h2 hB2 hb3 y0 y1 y2 y3 y4
    go_wp2_with fail
    go_ret
    rw [HN.out]
    exact ⟨⟨a2, c2, rfl, HF.out⟩, hB3⟩
end Go.Proofs.Ytbbbmmemfndnlaa
/- A range over all trees in a tree: what a round keeps, but for lists of texts that were made in it. -/
namespace Go.Proofs.Ytbbbmmemfndnlaa
open Go.RowKit
/-- a tree that is told, with how deep it stands; what is below it lies in the world w; its texts are no longer than this -/
structure TIX (w : World) where
  d : Nat
  k : Int
  t : ByteArray
  m : Int
  e : Int
  a : Option Addr
  kids : Fo
  c : Nat
  hin : kids.In w a
  hl : kids.len ≤ c
  hc : c ≤ maxLen
  ht : t.size ≤ maxLen
  hw : t.size ≤ 1048576 ∧ kids.wt ≤ 1048576
def TIX.raw {w : World} (x : TIX w) : Nat × Int × ByteArray × Int × Int × Fo := (x.d, x.k, x.t, x.m, x.e, x.kids)
def TIX.enc {w : World} (x : TIX w) : Array Value := #[.int .i64 x.d, .agg #[.int .i64 x.k, .string x.t, .int .i64 x.m, .int .i64 x.e, .slice x.a x.kids.len x.c]]
/-- a block that is no list of texts -/
def notText : Obj → Bool
  | .cells _ t _ => t != 9
  | _ => true
/-- what a round keeps: the cells that lay ahead of the caller, and those that were made since the loop began, but for lists of texts -/
def KeptX (n0 n1 : Nat) (W W' : World) : Prop := W.heap.size ≤ W'.heap.size ∧ ∀ j o, W.heap[j]? = some o → o.isCells = true → (j < n0 ∨ (n1 ≤ j ∧ notText o = true)) → W'.heap[j]? = some o
theorem KeptX.refl (n0 n1 : Nat) (W : World) : KeptX n0 n1 W W := ⟨Nat.le_refl _, fun _ _ h _ _ => h⟩
theorem KeptX.trans {n0 n1 : Nat} {A B C : World} (h : KeptX n0 n1 A B) (k : KeptX n0 n1 B C) : KeptX n0 n1 A C := ⟨Nat.le_trans h.1 k.1, fun j o ho hc hj => k.2 j o (h.2 j o ho hc hj) hc hj⟩
theorem KeptX.of_below {n0 n1 : Nat} {W W' : World} (h : Below W.heap.size W W') : KeptX n0 n1 W W' := ⟨h.size, fun j _ ho _ _ => (h.block j (Array.getElem?_eq_some_iff.1 ho).1).trans ho⟩
theorem KeptX.cell {n0 n1 : Nat} {W W' : World} (h : KeptX n0 n1 W W') {b o : Nat} {v : Value} (hv : W.cell? ⟨b, o, none⟩ = some v) (hb : b < n0 ∨ (n1 ≤ b ∧ ∀ o, W.heap[b]? = some o → notText o = true)) : W'.cell? ⟨b, o, none⟩ = some v := by
  obtain ⟨x, hx, hc⟩ := cells_of_cell hv
  exact (World.cell?_of_block ((h.2 b x hx hc (by rcases hb with hb | ⟨h1, h2⟩; exact .inl hb; exact .inr ⟨h1, h2 x hx⟩)).trans hx.symm)).trans hv
theorem KeptX.sub {n0 n1 : Nat} {w W W' : World} (h : KeptX n0 n1 W W') (hs : Sub w W) (hn : w.heap.size ≤ n0) : Sub w W' := fun b o v hv =>
  h.cell (hs b o v hv) (.inl (Nat.lt_of_lt_of_le (World.block_lt_of_cell? w _ hv) hn))
end Go.Proofs.Ytbbbmmemfndnlaa
/- All papers that a tree takes in, by the program: Imports. -/
namespace Go.Proofs.Ytbbbmmemfndnlaa
open Go.RowKit Go.Shelf
attribute [local go_sem] Oper.semAt_some cell_alloc_is frozen_alloc_is
theorem NL.own {B lb : Nat} {W W' : World} {ns : List ByteArray} (h : NL B W lb ns) (hk : ∀ (j : Nat) (o : Obj), W.heap[j]? = some o → o.isCells = true → W'.heap[j]? = some o) : NL B W' lb ns := by
  obtain ⟨a, c, h1, ⟨cs, h2, h3⟩, h4⟩ := h
  refine ⟨a, c, h1.of_block (fun g hg => ?_), ⟨cs, hk _ _ h2 rfl, h3⟩, h4⟩
  obtain ⟨cs, hcs⟩ := h1.isText hg
  rw [hk _ _ hcs rfl, hcs]
theorem Wr.others {B lb : Nat} {W W' : World} {ns : List ByteArray} (h : Wr B lb W W') (hn : NL B W lb ns) : KeepsOthers W W' := by
  refine ⟨h.1.size, fun k o hk ho => ?_⟩
  obtain ⟨a, c, _, ⟨cs, h2, _⟩, _⟩ := hn
  refine (h.2 k (Array.getElem?_eq_some_iff.1 hk).1 (fun e => ?_) (.inr fun cs z e => ?_)).trans hk
  · subst e; rw [h2] at hk; cases hk; cases ho
  · rw [e] at hk; cases hk; cases ho
theorem OwnT.mono {B B' : Nat} {w : World} {a : Option Addr} {c : Nat} {ns : List ByteArray} (h : OwnT B w a c ns) (hB : B' ≤ B) : OwnT B' w a c ns := by
  rcases h with h | ⟨g, f, h1, h2, h3⟩
  · exact .inl h
  · exact .inr ⟨g, f, h1, by omega, h3⟩
end Go.Proofs.Ytbbbmmemfndnlaa
/- Names from outside, by the program: addFrees, Frees. -/
namespace Go.Proofs.Ytbbbmmemfndnlaa
open Go.RowKit
attribute [local go_sem] cell_alloc_is frozen_alloc_is
theorem drop_wt (F : Fo) : ∀ {j : Nat}, (F.drop j).wt ≤ F.wt := by
  induction F with
  | nil => intro j; cases j <;> exact Nat.le_refl _
  | cons k t m e a c kids next _ ih =>
    intro j
    cases j with
    | zero => exact Nat.le_refl _
    | succ j => have := ih (j := j); show (next.drop j).wt ≤ t.size + kids.wt + 1 + next.wt; omega
theorem hasT_append (x : ByteArray) (a b : List ByteArray) : hasT x (a ++ b) = (hasT x a || hasT x b) := by unfold hasT; rw [List.any_append]
theorem NL.below {B lb : Nat} {w w' : World} {ns : List ByteArray} (h : NL B w lb ns) (hb : Below w.heap.size w w') : NL B w' lb ns :=
  h.own fun j _ hj _ => (hb.block j (Array.getElem?_eq_some_iff.1 hj).1).trans hj
set_option maxRecDepth 100000 in
set_option maxHeartbeats 2000000 in
theorem addFrees_all (w0 : World) (N : Nat) : ∀ (k : Int) (t : ByteArray) (m e : Int) (a : Option Addr) (c : Nat) (F : Fo) (bound : List ByteArray) (Ls : List Lev) (p : Option Addr) (ns : List ByteArray) (lb : Nat) (w : World), F.size < N → F.In w0 a → F.len ≤ c → c ≤ maxLen → t.size ≤ 1048576 ∧ F.wt ≤ 1048576 → lamOk k F → F.Lam → Below w0.heap.size w0 w → w0.heap.size ≤ lb → NL w0.heap.size w lb ns → ascT ns → ns.length + F.size + 1 ≤ 500000 → ScIn w p Ls → (∀ x, scHas x Ls = hasT x bound) →
    Calls Try.prog 29 #[.pointer (some ⟨lb, 0, none⟩), nodeV k t m e a F.len c, .pointer p] w fun r w' => r = .returned (.tuple #[]) ∧ NL w0.heap.size w' lb (fri1 k t F bound ns) ∧ Wr w0.heap.size lb w w' := by
  induction N with
  | zero => intro k t m e a c F bound Ls p ns lb w hF; omega
  | succ N ih =>
    intro k t m e a c F bound Ls p ns lb w hF hin hl hc ht hlam hLam hB0 hlb hNL hasc hsz hSc hBd
    have hll := F.len_le
    have hc2 : c ≤ 2 ^ 63 - 1 := hc
    have hb0 : Below w.heap.size w (w.alloc (.cells #[.int .i64 k, .string t, .int .i64 m, .int .i64 e, .slice a F.len c] 33)) := (Below.refl _ _).alloc (Nat.le_refl _) _
    have f0 := BoxN.new w k t m e (.slice a F.len c)
    have hBn := binds_any Ls p t _ (hSc.keep (KeepS.of_below hb0))
    have hNL0 := hNL.below hb0
    have hB1 := hB0.trans (hb0.mono hB0.size)
    have hSc1 := hSc.keep (KeepS.of_below hb0)
    have hW0 : Wr w0.heap.size lb w (w.alloc (.cells #[.int .i64 k, .string t, .int .i64 m, .int .i64 e, .slice a F.len c] 33)) := Wr.of_below hb0 hB0.size
    have hAd := add_any (s := t) hNL0 hasc hB1.size hlb (by omega) (by omega)
    have hcs : ((k == 6) = true ∧ scHas t Ls = false) ∨ ((k == 6) = true ∧ scHas t Ls = true) ∨ (k == 6) = false := by
      by_cases hk : k = 6
      · cases hq : scHas t Ls
        · exact .inl ⟨by simp [hk], rfl⟩
        · exact .inr (.inl ⟨by simp [hk], rfl⟩)
      · exact .inr (.inr (by simp [hk]))
    have HP : Hid (∀ n0, (((k == 6) = true ∧ scHas t Ls = false) → n0 = put1 t ns) → (¬ ((k == 6) = true ∧ scHas t Ls = false) → n0 = ns) → F.fri k t F bound 0 n0 = fri1 k t F bound ns) := by
      intro n0 h1 h2
      unfold fri1
      by_cases hq : (k == 6) = true ∧ scHas t Ls = false
      · rw [if_pos ⟨by simpa using hq.1, by rw [← hBd]; exact hq.2⟩, h1 hq]
      · rw [if_neg (fun hh => hq ⟨by simp [hh.1], by rw [hBd]; exact hh.2⟩), h2 hq]
    have HLm : Hid (lamOk k F ∧ F.Lam) := ⟨hlam, hLam⟩
    have HIn : Hid (F.In w0 a) := hin
    have HBd : Hid (∀ x, scHas x Ls = hasT x bound) := hBd
    have HW : Hid (t.size ≤ 1048576 ∧ F.wt ≤ 1048576) := ht
    clear hlam hLam hin hNL hSc hB0 hBd
    have hp1 := asc_put1 (s := t) hasc
    have hp2 := put1_len t ns
    rcases hcs with ⟨hk, hh⟩ | ⟨hk, hh⟩ | hk
    all_goals first | rw [hh] at hBn | clear hBn
    all_goals go_enter Try.func29, Try.ntmps29
    all_goals obtain ⟨x0, x1, x2, x3, x4⟩ := f0.cells
    all_goals go_wp2_with fail
    · refine hBn.mono ?_
      rintro r w1 ⟨rfl, rfl⟩
      clear hBn
      go_wp2_with fail
      refine hAd.mono ?_
      rintro r wX ⟨rfl, hNX, hWX'⟩
      have hWX := hW0.trans hWX'
      have hfX := f0.wr hWX' hNL0
      have hScX := hSc1.keep (KeepS.of_wr hWX' hNL0)
      have hBX := hB1.trans hWX'.1
      obtain ⟨n0, hn0⟩ : ∃ n0, n0 = put1 t ns := ⟨_, rfl⟩
      have hax : ascT n0 := by rw [hn0]; exact hp1
      have hlx : n0.length ≤ ns.length + 1 := by rw [hn0]; exact hp2
      have HF0 : Hid (F.fri k t F bound 0 n0 = fri1 k t F bound ns) := HP.out n0 (fun _ => hn0) (fun h => absurd ⟨hk, hh⟩ h)
      rw [← hn0] at hNX
      clear hn0 hWX' hAd hNL0 hSc1 hW0 f0 hp1 hp2 hB1 hb0 x0 x1 x2 x3 x4 hh hk
      obtain ⟨x0, x1, x2, x3, x4⟩ := hfX.cells
      go_wp2_with fail
      go_loopw [25] (fun i wr => ∃ (j : Nat) (G : Fo) (nj : List ByteArray), i = .int .i64 j ∧ F.drop j = G ∧ (j + G.len = F.len ∧ j + G.size ≤ F.size) ∧ nj.length + G.size ≤ ns.length + 1 + F.size ∧ ascT nj ∧ G.fri k t F bound j nj = fri1 k t F bound ns ∧ NL w0.heap.size wr lb nj ∧ BoxN wr w.heap.size k t m e (.slice a F.len c) ∧ ScIn wr p Ls ∧ Below w0.heap.size w0 wr ∧ Wr w0.heap.size lb w wr) (fun i _ => F.len - (intOf i).toNat)
      case atStart => exact ⟨0, F, n0, rfl, drop_zero F, ⟨Nat.zero_add _, by omega⟩, by omega, hax, HF0.out, hNX, hfX, hScX, hBX, hWX⟩
      case round =>
        clear hNX hfX hScX hBX hWX hax x0 x1 x2 x3 x4
        obtain ⟨j, G, nj, rfl, hd, ⟨hj1, hj2⟩, hq, ha, hfr, hN, hbox, hS, hB, hWr⟩ := hrel
        have HQ : Hid (G.fri k t F bound j nj = fri1 k t F bound ns) := hfr
        have HG : Hid (F.drop j = G) := hd
        clear hfr hd
        cases G with
        | nil =>
          have hj' : j = F.len := by simpa [Fo.len] using hj1
          have hlt : ¬ (j : Int) < (F.len : Int) := by omega
          have HZ : Hid (NL w0.heap.size wr lb (fri1 k t F bound ns) ∧ Wr w0.heap.size lb w wr) := by
            have e : nj = fri1 k t F bound ns := HQ.out
            rw [← e]; exact ⟨hN, hWr⟩
          clear hN hWr hbox hS hB ih hj1 hj2
          go_wp2_with fail
          go_end0
          exact ⟨rfl, HZ.out⟩
        | cons k' t' m' e' a' c' kids next =>
          have hlt : (j : Int) < (F.len : Int) := by have : j + (next.len + 1) = F.len := hj1; omega
          have hjl : j < F.len := by omega
          have hsz2 : nj.length + (kids.size + 1 + next.size) ≤ ns.length + 1 + F.size := hq
          have hsz3 : j + (kids.size + 1 + next.size) ≤ F.size := hj2
          have hln : j + (next.len + 1) = F.len := hj1
          obtain ⟨b, o, rfl, hf0⟩ : ∃ b o, a = some ⟨b, o, none⟩ ∧ F.From w0 b o := by
            rcases HIn.out with h | ⟨b, o, e1, e2⟩
            · rw [h] at hjl; exact absurd hjl (Nat.not_lt_zero _)
            · exact ⟨b, o, e1, e2⟩
          have hfr0 := drop_from F (j := j) hf0
          rw [HG.out] at hfr0
          obtain ⟨-, hkin, hc1, hc3, ht', -⟩ := hfr0
          have hfr2 := drop_from F (j := j) (Fo.from_grow hB F b o hf0)
          rw [HG.out] at hfr2
          obtain ⟨⟨h1, h2, h3, h4, h5⟩, -⟩ := hfr2
          have hLm2 := drop_lam F (j := j) HLm.out.2
          rw [HG.out] at hLm2
          have hwt := drop_wt F (j := j)
          rw [HG.out] at hwt
          have hwt2 : t'.size + kids.wt + 1 + next.wt ≤ F.wt := hwt
          have hw2 : t'.size ≤ 1048576 ∧ kids.wt ≤ 1048576 := by have := HW.out.2; omega
          have hbA := (Below.refl wr.heap.size wr).alloc (Nat.le_refl _) (.cells #[.int .i64 k', .string t', .int .i64 m', .int .i64 e', .slice a' kids.len c'] 33)
          have hboxA := hbox.below hbA
          have hkb := BoxN.new wr k' t' m' e' (.slice a' kids.len c')
          have hNA := hN.below hbA
          have hSA := hS.keep (KeepS.of_below hbA)
          have hBA := hB.trans (hbA.mono hB.size)
          have hWA := hWr.trans (Wr.of_below hbA hB.size)
          obtain ⟨WA, hWAe⟩ : ∃ WA, WA = wr.alloc (.cells #[.int .i64 k', .string t', .int .i64 m', .int .i64 e', .slice a' kids.len c'] 33) := ⟨_, rfl⟩
          rw [← hWAe] at hboxA hkb hNA hSA hBA hWA
          have HBx := fun (w' : World) (hb : Below WA.heap.size WA w') => scBelow_any Ls p k t m e (some ⟨b, o, none⟩) c F j w' (hSA.keep (KeepS.of_below hb)) (.inr ⟨b, o, rfl, Fo.from_grow (hBA.trans (hb.mono hBA.size)) F b o hf0⟩) hl hc (by have := HW.out.1; unfold maxLen; omega) HLm.out.1 hjl (by omega)
          have HCx := fun (w' : World) (p' : Option Addr) (hb : Below WA.heap.size WA w') (hR : ∃ Ls', ScIn w' p' Ls' ∧ ∀ x, scHas x Ls' = (scHas x Ls || hasT x (bnd k t F j))) => show Calls Try.prog 29 #[.pointer (some ⟨lb, 0, none⟩), nodeV k' t' m' e' a' kids.len c', .pointer p'] w' (fun r w2 => r = .returned (.tuple #[]) ∧ (BoxN w2 w.heap.size k t m e (.slice (some ⟨b, o, none⟩) F.len c) ∧ BoxN w2 wr.heap.size k' t' m' e' (.slice a' kids.len c')) ∧ (NL w0.heap.size w2 lb (fri1 k' t' kids (bound ++ bnd k t F j) nj) ∧ Wr w0.heap.size lb w w2 ∧ ScIn w2 p Ls ∧ Below w0.heap.size w0 w2)) by
            obtain ⟨Ls', hS', hH'⟩ := hR
            have hN' := hNA.below hb
            refine (ih k' t' m' e' a' c' kids (bound ++ bnd k t F j) Ls' p' nj lb w' (by omega) hkin hc1 hc3 hw2 hLm2.1 hLm2.2.1 (hBA.trans (hb.mono hBA.size)) hlb hN' ha (by omega) hS' (fun x => by rw [hH', HBd.out, hasT_append])).mono ?_
            rintro r w2 ⟨rfl, hN2, hW2⟩
            exact ⟨rfl, ⟨(hboxA.below hb).wr hW2 hN', (hkb.below hb).wr hW2 hN'⟩, hN2, (hWA.trans (Wr.of_below hb hBA.size)).trans hW2, (hSA.keep (KeepS.of_below hb)).keep (KeepS.of_wr hW2 hN'), (hBA.trans (hb.mono hBA.size)).trans hW2.1⟩
          have HQ2 : Hid (next.fri k t F bound (j + 1) (fri1 k' t' kids (bound ++ bnd k t F j) nj) = fri1 k t F bound ns) := HQ.out
          obtain ⟨hax2, hlx2⟩ := fri1_ok k' t' kids (bound ++ bnd k t F j) nj ha
          have HL : Hid (ascT (fri1 k' t' kids (bound ++ bnd k t F j) nj) ∧ (fri1 k' t' kids (bound ++ bnd k t F j) nj).length + next.size ≤ ns.length + 1 + F.size ∧ j + 1 + next.len = F.len ∧ j + 1 + next.size ≤ F.size) := ⟨hax2, by omega, by omega, by omega⟩
          have HN : Hid (F.drop (j + 1) = next) := Fo.drop_next HG.out
          obtain ⟨x0, x1, x2, x3, x4⟩ := hbox.cells
          clear ih HQ hN hS hB hWr hkin hLm2 hwt hwt2 hax2 hlx2 hNA hSA hBA hWA ha hj1 hj2 hq hsz2 hsz3 hln
          go_wp2_with fail
          rw [← hWAe]
          refine la6 (RB := fun p' w2 => ∃ Ls', ScIn w2 p' Ls' ∧ ∀ x, scHas x Ls' = (scHas x Ls || hasT x (bnd k t F j))) (RC := fun w2 => NL w0.heap.size w2 lb (fri1 k' t' kids (bound ++ bnd k t F j) nj) ∧ Wr w0.heap.size lb w w2 ∧ ScIn w2 p Ls ∧ Below w0.heap.size w0 w2) hboxA hkb (fun w' hb => (HBx w' hb).mono (by rintro r w2 ⟨⟨p', Ls', rfl, h1, h2⟩, h3⟩; exact ⟨p', rfl, ⟨Ls', h1, h2⟩, h3⟩)) HCx (fun _ d _ _ _ h => by cases d <;> exact h) ?_
          intro W1 v30 v31 v32 v33 v34 v35 v36 hbx1 hRC
          obtain ⟨hN1, hW1, hS1, hBB1⟩ := hRC
          clear HCx HBx hboxA hkb hWAe hbox x0 x1 x2 x3 x4 h1 h2 h3 h4 h5
          go_wp2_with fail
          go_round
          case rel => exact ⟨j + 1, next, fri1 k' t' kids (bound ++ bnd k t F j) nj, by go_num, HN.out, HL.out.2.2, HL.out.2.1, HL.out.1, HQ2.out, hN1, hbx1, hS1, hBB1, hW1⟩
          case measure => simp [intOf]; omega
    · refine hBn.mono ?_
      rintro r w1 ⟨rfl, rfl⟩
      clear hBn
      go_wp2_with fail
      clear hAd hp1 hp2
      obtain ⟨n0, hn0⟩ : ∃ n0, n0 = ns := ⟨_, rfl⟩
      have HF0 : Hid (F.fri k t F bound 0 n0 = fri1 k t F bound ns) := HP.out n0 (fun h => by first | (rw [hh] at h; cases h.2) | (rw [hk] at h; cases h.1)) (fun _ => hn0)
      have hax : ascT n0 := by rw [hn0]; exact hasc
      have hlx : n0.length ≤ ns.length + 1 := by rw [hn0]; omega
      have hNX : NL w0.heap.size (w.alloc (.cells #[.int .i64 k, .string t, .int .i64 m, .int .i64 e, .slice a F.len c] 33)) lb n0 := by rw [hn0]; exact hNL0
      clear hn0 hNL0 hb0 hh hk
      obtain ⟨wX, hwX⟩ : ∃ wX, wX = w.alloc (.cells #[.int .i64 k, .string t, .int .i64 m, .int .i64 e, .slice a F.len c] 33) := ⟨_, rfl⟩
      rw [← hwX] at hNX hSc1 hW0 f0 hB1 ⊢
      have hfX := f0
      have hScX := hSc1
      have hBX := hB1
      have hWX := hW0
      clear f0 hSc1 hB1 hW0 hwX
      clear x0 x1 x2 x3 x4
      obtain ⟨x0, x1, x2, x3, x4⟩ := hfX.cells
      go_loopw [25] (fun i wr => ∃ (j : Nat) (G : Fo) (nj : List ByteArray), i = .int .i64 j ∧ F.drop j = G ∧ (j + G.len = F.len ∧ j + G.size ≤ F.size) ∧ nj.length + G.size ≤ ns.length + 1 + F.size ∧ ascT nj ∧ G.fri k t F bound j nj = fri1 k t F bound ns ∧ NL w0.heap.size wr lb nj ∧ BoxN wr w.heap.size k t m e (.slice a F.len c) ∧ ScIn wr p Ls ∧ Below w0.heap.size w0 wr ∧ Wr w0.heap.size lb w wr) (fun i _ => F.len - (intOf i).toNat)
      case atStart => exact ⟨0, F, n0, rfl, drop_zero F, ⟨Nat.zero_add _, by omega⟩, by omega, hax, HF0.out, hNX, hfX, hScX, hBX, hWX⟩
      case round =>
        clear hNX hfX hScX hBX hWX hax x0 x1 x2 x3 x4
        obtain ⟨j, G, nj, rfl, hd, ⟨hj1, hj2⟩, hq, ha, hfr, hN, hbox, hS, hB, hWr⟩ := hrel
        have HQ : Hid (G.fri k t F bound j nj = fri1 k t F bound ns) := hfr
        have HG : Hid (F.drop j = G) := hd
        clear hfr hd
        cases G with
        | nil =>
          have hj' : j = F.len := by simpa [Fo.len] using hj1
          have hlt : ¬ (j : Int) < (F.len : Int) := by omega
          have HZ : Hid (NL w0.heap.size wr lb (fri1 k t F bound ns) ∧ Wr w0.heap.size lb w wr) := by
            have e : nj = fri1 k t F bound ns := HQ.out
            rw [← e]; exact ⟨hN, hWr⟩
          clear hN hWr hbox hS hB ih hj1 hj2
          go_wp2_with fail
          go_end0
          exact ⟨rfl, HZ.out⟩
        | cons k' t' m' e' a' c' kids next =>
          have hlt : (j : Int) < (F.len : Int) := by have : j + (next.len + 1) = F.len := hj1; omega
          have hjl : j < F.len := by omega
          have hsz2 : nj.length + (kids.size + 1 + next.size) ≤ ns.length + 1 + F.size := hq
          have hsz3 : j + (kids.size + 1 + next.size) ≤ F.size := hj2
          have hln : j + (next.len + 1) = F.len := hj1
          obtain ⟨b, o, rfl, hf0⟩ : ∃ b o, a = some ⟨b, o, none⟩ ∧ F.From w0 b o := by
            rcases HIn.out with h | ⟨b, o, e1, e2⟩
            · rw [h] at hjl; exact absurd hjl (Nat.not_lt_zero _)
            · exact ⟨b, o, e1, e2⟩
          have hfr0 := drop_from F (j := j) hf0
          rw [HG.out] at hfr0
          obtain ⟨-, hkin, hc1, hc3, ht', -⟩ := hfr0
          have hfr2 := drop_from F (j := j) (Fo.from_grow hB F b o hf0)
          rw [HG.out] at hfr2
          obtain ⟨⟨h1, h2, h3, h4, h5⟩, -⟩ := hfr2
          have hLm2 := drop_lam F (j := j) HLm.out.2
          rw [HG.out] at hLm2
          have hwt := drop_wt F (j := j)
          rw [HG.out] at hwt
          have hwt2 : t'.size + kids.wt + 1 + next.wt ≤ F.wt := hwt
          have hw2 : t'.size ≤ 1048576 ∧ kids.wt ≤ 1048576 := by have := HW.out.2; omega
          have hbA := (Below.refl wr.heap.size wr).alloc (Nat.le_refl _) (.cells #[.int .i64 k', .string t', .int .i64 m', .int .i64 e', .slice a' kids.len c'] 33)
          have hboxA := hbox.below hbA
          have hkb := BoxN.new wr k' t' m' e' (.slice a' kids.len c')
          have hNA := hN.below hbA
          have hSA := hS.keep (KeepS.of_below hbA)
          have hBA := hB.trans (hbA.mono hB.size)
          have hWA := hWr.trans (Wr.of_below hbA hB.size)
          obtain ⟨WA, hWAe⟩ : ∃ WA, WA = wr.alloc (.cells #[.int .i64 k', .string t', .int .i64 m', .int .i64 e', .slice a' kids.len c'] 33) := ⟨_, rfl⟩
          rw [← hWAe] at hboxA hkb hNA hSA hBA hWA
          have HBx := fun (w' : World) (hb : Below WA.heap.size WA w') => scBelow_any Ls p k t m e (some ⟨b, o, none⟩) c F j w' (hSA.keep (KeepS.of_below hb)) (.inr ⟨b, o, rfl, Fo.from_grow (hBA.trans (hb.mono hBA.size)) F b o hf0⟩) hl hc (by have := HW.out.1; unfold maxLen; omega) HLm.out.1 hjl (by omega)
          have HCx := fun (w' : World) (p' : Option Addr) (hb : Below WA.heap.size WA w') (hR : ∃ Ls', ScIn w' p' Ls' ∧ ∀ x, scHas x Ls' = (scHas x Ls || hasT x (bnd k t F j))) => show Calls Try.prog 29 #[.pointer (some ⟨lb, 0, none⟩), nodeV k' t' m' e' a' kids.len c', .pointer p'] w' (fun r w2 => r = .returned (.tuple #[]) ∧ (BoxN w2 w.heap.size k t m e (.slice (some ⟨b, o, none⟩) F.len c) ∧ BoxN w2 wr.heap.size k' t' m' e' (.slice a' kids.len c')) ∧ (NL w0.heap.size w2 lb (fri1 k' t' kids (bound ++ bnd k t F j) nj) ∧ Wr w0.heap.size lb w w2 ∧ ScIn w2 p Ls ∧ Below w0.heap.size w0 w2)) by
            obtain ⟨Ls', hS', hH'⟩ := hR
            have hN' := hNA.below hb
            refine (ih k' t' m' e' a' c' kids (bound ++ bnd k t F j) Ls' p' nj lb w' (by omega) hkin hc1 hc3 hw2 hLm2.1 hLm2.2.1 (hBA.trans (hb.mono hBA.size)) hlb hN' ha (by omega) hS' (fun x => by rw [hH', HBd.out, hasT_append])).mono ?_
            rintro r w2 ⟨rfl, hN2, hW2⟩
            exact ⟨rfl, ⟨(hboxA.below hb).wr hW2 hN', (hkb.below hb).wr hW2 hN'⟩, hN2, (hWA.trans (Wr.of_below hb hBA.size)).trans hW2, (hSA.keep (KeepS.of_below hb)).keep (KeepS.of_wr hW2 hN'), (hBA.trans (hb.mono hBA.size)).trans hW2.1⟩
          have HQ2 : Hid (next.fri k t F bound (j + 1) (fri1 k' t' kids (bound ++ bnd k t F j) nj) = fri1 k t F bound ns) := HQ.out
          obtain ⟨hax2, hlx2⟩ := fri1_ok k' t' kids (bound ++ bnd k t F j) nj ha
          have HL : Hid (ascT (fri1 k' t' kids (bound ++ bnd k t F j) nj) ∧ (fri1 k' t' kids (bound ++ bnd k t F j) nj).length + next.size ≤ ns.length + 1 + F.size ∧ j + 1 + next.len = F.len ∧ j + 1 + next.size ≤ F.size) := ⟨hax2, by omega, by omega, by omega⟩
          have HN : Hid (F.drop (j + 1) = next) := Fo.drop_next HG.out
          obtain ⟨x0, x1, x2, x3, x4⟩ := hbox.cells
          clear ih HQ hN hS hB hWr hkin hLm2 hwt hwt2 hax2 hlx2 hNA hSA hBA hWA ha hj1 hj2 hq hsz2 hsz3 hln
          go_wp2_with fail
          rw [← hWAe]
          refine la6 (RB := fun p' w2 => ∃ Ls', ScIn w2 p' Ls' ∧ ∀ x, scHas x Ls' = (scHas x Ls || hasT x (bnd k t F j))) (RC := fun w2 => NL w0.heap.size w2 lb (fri1 k' t' kids (bound ++ bnd k t F j) nj) ∧ Wr w0.heap.size lb w w2 ∧ ScIn w2 p Ls ∧ Below w0.heap.size w0 w2) hboxA hkb (fun w' hb => (HBx w' hb).mono (by rintro r w2 ⟨⟨p', Ls', rfl, h1, h2⟩, h3⟩; exact ⟨p', rfl, ⟨Ls', h1, h2⟩, h3⟩)) HCx (fun _ d _ _ _ h => by cases d <;> exact h) ?_
          intro W1 v30 v31 v32 v33 v34 v35 v36 hbx1 hRC
          obtain ⟨hN1, hW1, hS1, hBB1⟩ := hRC
          clear HCx HBx hboxA hkb hWAe hbox x0 x1 x2 x3 x4 h1 h2 h3 h4 h5
          go_wp2_with fail
          go_round
          case rel => exact ⟨j + 1, next, fri1 k' t' kids (bound ++ bnd k t F j) nj, by go_num, HN.out, HL.out.2.2, HL.out.2.1, HL.out.1, HQ2.out, hN1, hbx1, hS1, hBB1, hW1⟩
          case measure => simp [intOf]; omega
    · clear hAd hp1 hp2
      obtain ⟨n0, hn0⟩ : ∃ n0, n0 = ns := ⟨_, rfl⟩
      have HF0 : Hid (F.fri k t F bound 0 n0 = fri1 k t F bound ns) := HP.out n0 (fun h => by first | (rw [hh] at h; cases h.2) | (rw [hk] at h; cases h.1)) (fun _ => hn0)
      have hax : ascT n0 := by rw [hn0]; exact hasc
      have hlx : n0.length ≤ ns.length + 1 := by rw [hn0]; omega
      have hNX : NL w0.heap.size (w.alloc (.cells #[.int .i64 k, .string t, .int .i64 m, .int .i64 e, .slice a F.len c] 33)) lb n0 := by rw [hn0]; exact hNL0
      clear hn0 hNL0 hb0 hk
      obtain ⟨wX, hwX⟩ : ∃ wX, wX = w.alloc (.cells #[.int .i64 k, .string t, .int .i64 m, .int .i64 e, .slice a F.len c] 33) := ⟨_, rfl⟩
      rw [← hwX] at hNX hSc1 hW0 f0 hB1 ⊢
      have hfX := f0
      have hScX := hSc1
      have hBX := hB1
      have hWX := hW0
      clear f0 hSc1 hB1 hW0 hwX
      clear x0 x1 x2 x3 x4
      obtain ⟨x0, x1, x2, x3, x4⟩ := hfX.cells
      go_loopw [25] (fun i wr => ∃ (j : Nat) (G : Fo) (nj : List ByteArray), i = .int .i64 j ∧ F.drop j = G ∧ (j + G.len = F.len ∧ j + G.size ≤ F.size) ∧ nj.length + G.size ≤ ns.length + 1 + F.size ∧ ascT nj ∧ G.fri k t F bound j nj = fri1 k t F bound ns ∧ NL w0.heap.size wr lb nj ∧ BoxN wr w.heap.size k t m e (.slice a F.len c) ∧ ScIn wr p Ls ∧ Below w0.heap.size w0 wr ∧ Wr w0.heap.size lb w wr) (fun i _ => F.len - (intOf i).toNat)
      case atStart => exact ⟨0, F, n0, rfl, drop_zero F, ⟨Nat.zero_add _, by omega⟩, by omega, hax, HF0.out, hNX, hfX, hScX, hBX, hWX⟩
      case round =>
        clear hNX hfX hScX hBX hWX hax x0 x1 x2 x3 x4
        obtain ⟨j, G, nj, rfl, hd, ⟨hj1, hj2⟩, hq, ha, hfr, hN, hbox, hS, hB, hWr⟩ := hrel
        have HQ : Hid (G.fri k t F bound j nj = fri1 k t F bound ns) := hfr
        have HG : Hid (F.drop j = G) := hd
        clear hfr hd
        cases G with
        | nil =>
          have hj' : j = F.len := by simpa [Fo.len] using hj1
          have hlt : ¬ (j : Int) < (F.len : Int) := by omega
          have HZ : Hid (NL w0.heap.size wr lb (fri1 k t F bound ns) ∧ Wr w0.heap.size lb w wr) := by
            have e : nj = fri1 k t F bound ns := HQ.out
            rw [← e]; exact ⟨hN, hWr⟩
          clear hN hWr hbox hS hB ih hj1 hj2
          go_wp2_with fail
          go_end0
          exact ⟨rfl, HZ.out⟩
        | cons k' t' m' e' a' c' kids next =>
          have hlt : (j : Int) < (F.len : Int) := by have : j + (next.len + 1) = F.len := hj1; omega
          have hjl : j < F.len := by omega
          have hsz2 : nj.length + (kids.size + 1 + next.size) ≤ ns.length + 1 + F.size := hq
          have hsz3 : j + (kids.size + 1 + next.size) ≤ F.size := hj2
          have hln : j + (next.len + 1) = F.len := hj1
          obtain ⟨b, o, rfl, hf0⟩ : ∃ b o, a = some ⟨b, o, none⟩ ∧ F.From w0 b o := by
            rcases HIn.out with h | ⟨b, o, e1, e2⟩
            · rw [h] at hjl; exact absurd hjl (Nat.not_lt_zero _)
            · exact ⟨b, o, e1, e2⟩
          have hfr0 := drop_from F (j := j) hf0
          rw [HG.out] at hfr0
          obtain ⟨-, hkin, hc1, hc3, ht', -⟩ := hfr0
          have hfr2 := drop_from F (j := j) (Fo.from_grow hB F b o hf0)
          rw [HG.out] at hfr2
          obtain ⟨⟨h1, h2, h3, h4, h5⟩, -⟩ := hfr2
          have hLm2 := drop_lam F (j := j) HLm.out.2
          rw [HG.out] at hLm2
          have hwt := drop_wt F (j := j)
          rw [HG.out] at hwt
          have hwt2 : t'.size + kids.wt + 1 + next.wt ≤ F.wt := hwt
          have hw2 : t'.size ≤ 1048576 ∧ kids.wt ≤ 1048576 := by have := HW.out.2; omega
          have hbA := (Below.refl wr.heap.size wr).alloc (Nat.le_refl _) (.cells #[.int .i64 k', .string t', .int .i64 m', .int .i64 e', .slice a' kids.len c'] 33)
          have hboxA := hbox.below hbA
          have hkb := BoxN.new wr k' t' m' e' (.slice a' kids.len c')
          have hNA := hN.below hbA
          have hSA := hS.keep (KeepS.of_below hbA)
          have hBA := hB.trans (hbA.mono hB.size)
          have hWA := hWr.trans (Wr.of_below hbA hB.size)
          obtain ⟨WA, hWAe⟩ : ∃ WA, WA = wr.alloc (.cells #[.int .i64 k', .string t', .int .i64 m', .int .i64 e', .slice a' kids.len c'] 33) := ⟨_, rfl⟩
          rw [← hWAe] at hboxA hkb hNA hSA hBA hWA
          have HBx := fun (w' : World) (hb : Below WA.heap.size WA w') => scBelow_any Ls p k t m e (some ⟨b, o, none⟩) c F j w' (hSA.keep (KeepS.of_below hb)) (.inr ⟨b, o, rfl, Fo.from_grow (hBA.trans (hb.mono hBA.size)) F b o hf0⟩) hl hc (by have := HW.out.1; unfold maxLen; omega) HLm.out.1 hjl (by omega)
          have HCx := fun (w' : World) (p' : Option Addr) (hb : Below WA.heap.size WA w') (hR : ∃ Ls', ScIn w' p' Ls' ∧ ∀ x, scHas x Ls' = (scHas x Ls || hasT x (bnd k t F j))) => show Calls Try.prog 29 #[.pointer (some ⟨lb, 0, none⟩), nodeV k' t' m' e' a' kids.len c', .pointer p'] w' (fun r w2 => r = .returned (.tuple #[]) ∧ (BoxN w2 w.heap.size k t m e (.slice (some ⟨b, o, none⟩) F.len c) ∧ BoxN w2 wr.heap.size k' t' m' e' (.slice a' kids.len c')) ∧ (NL w0.heap.size w2 lb (fri1 k' t' kids (bound ++ bnd k t F j) nj) ∧ Wr w0.heap.size lb w w2 ∧ ScIn w2 p Ls ∧ Below w0.heap.size w0 w2)) by
            obtain ⟨Ls', hS', hH'⟩ := hR
            have hN' := hNA.below hb
            refine (ih k' t' m' e' a' c' kids (bound ++ bnd k t F j) Ls' p' nj lb w' (by omega) hkin hc1 hc3 hw2 hLm2.1 hLm2.2.1 (hBA.trans (hb.mono hBA.size)) hlb hN' ha (by omega) hS' (fun x => by rw [hH', HBd.out, hasT_append])).mono ?_
            rintro r w2 ⟨rfl, hN2, hW2⟩
            exact ⟨rfl, ⟨(hboxA.below hb).wr hW2 hN', (hkb.below hb).wr hW2 hN'⟩, hN2, (hWA.trans (Wr.of_below hb hBA.size)).trans hW2, (hSA.keep (KeepS.of_below hb)).keep (KeepS.of_wr hW2 hN'), (hBA.trans (hb.mono hBA.size)).trans hW2.1⟩
          have HQ2 : Hid (next.fri k t F bound (j + 1) (fri1 k' t' kids (bound ++ bnd k t F j) nj) = fri1 k t F bound ns) := HQ.out
          obtain ⟨hax2, hlx2⟩ := fri1_ok k' t' kids (bound ++ bnd k t F j) nj ha
          have HL : Hid (ascT (fri1 k' t' kids (bound ++ bnd k t F j) nj) ∧ (fri1 k' t' kids (bound ++ bnd k t F j) nj).length + next.size ≤ ns.length + 1 + F.size ∧ j + 1 + next.len = F.len ∧ j + 1 + next.size ≤ F.size) := ⟨hax2, by omega, by omega, by omega⟩
          have HN : Hid (F.drop (j + 1) = next) := Fo.drop_next HG.out
          obtain ⟨x0, x1, x2, x3, x4⟩ := hbox.cells
          clear ih HQ hN hS hB hWr hkin hLm2 hwt hwt2 hax2 hlx2 hNA hSA hBA hWA ha hj1 hj2 hq hsz2 hsz3 hln
          go_wp2_with fail
          rw [← hWAe]
          refine la6 (RB := fun p' w2 => ∃ Ls', ScIn w2 p' Ls' ∧ ∀ x, scHas x Ls' = (scHas x Ls || hasT x (bnd k t F j))) (RC := fun w2 => NL w0.heap.size w2 lb (fri1 k' t' kids (bound ++ bnd k t F j) nj) ∧ Wr w0.heap.size lb w w2 ∧ ScIn w2 p Ls ∧ Below w0.heap.size w0 w2) hboxA hkb (fun w' hb => (HBx w' hb).mono (by rintro r w2 ⟨⟨p', Ls', rfl, h1, h2⟩, h3⟩; exact ⟨p', rfl, ⟨Ls', h1, h2⟩, h3⟩)) HCx (fun _ d _ _ _ h => by cases d <;> exact h) ?_
          intro W1 v30 v31 v32 v33 v34 v35 v36 hbx1 hRC
          obtain ⟨hN1, hW1, hS1, hBB1⟩ := hRC
          clear HCx HBx hboxA hkb hWAe hbox x0 x1 x2 x3 x4 h1 h2 h3 h4 h5
          go_wp2_with fail
          go_round
          case rel => exact ⟨j + 1, next, fri1 k' t' kids (bound ++ bnd k t F j) nj, by go_num, HN.out, HL.out.2.2, HL.out.2.1, HL.out.1, HQ2.out, hN1, hbx1, hS1, hBB1, hW1⟩
          case measure => simp [intOf]; omega
theorem iFrees_any (k : Int) (t : ByteArray) (m e : Int) (a : Option Addr) (c : Nat) (F : Fo) (w : World) (hF : F.size ≤ 1050000) (hin : F.In w a) (hl : F.len ≤ c) (hc : c ≤ maxLen) (ht : t.size ≤ maxLen) (hw : t.size ≤ 1048576 ∧ F.wt ≤ 1048576) :
    Calls Try.prog 10 #[nodeV k t m e a F.len c] w fun r w' => (∃ a' c', r = .returned (.slice a' (freesOf k t m e F).length c') ∧ OwnT w.heap.size w' a' c' (freesOf k t m e F)) ∧ Below w.heap.size w w' := by
  have hb0 : Below w.heap.size w (w.alloc (.cells #[.int .i64 k, .string t, .int .i64 m, .int .i64 e, .slice a F.len c] 33)) := (Below.refl _ _).alloc (Nat.le_refl _) _
  have f0 := BoxN.new w k t m e (.slice a F.len c)
  have HC := iTreeOk_any k t m e a c F _ (by omega) (hin.grow hb0) hl hc ht
  have HI : Hid (F.In w a) := hin
  have HW : Hid (t.size ≤ 1048576 ∧ F.wt ≤ 1048576) := hw
  clear hin hw
  obtain ⟨x0, x1, x2, x3, x4⟩ := f0.cells
  go_enter Try.func10, Try.ntmps10
  go_wp2_with fail
  refine HC.mono ?_
  rintro r w1 ⟨⟨q, rfl, hq⟩, hb1⟩
  have HQ : Hid (q = true ↔ (¬ k = 23 ∧ TreeGood k t m e F)) := hq
  have f1 := f0.below hb1
  have hB1 := hb0.trans (hb1.mono hb0.size)
  clear hq hb0 hb1 f0 HC x0 x1 x2 x3 x4
  obtain ⟨x0, x1, x2, x3, x4⟩ := f1.cells
  cases q
  · have HN : Hid (freesOf k t m e F = []) := freesOf_no fun h => by have := HQ.out.2 h; cases this
    clear HQ
    go_wp2_with fail
    go_ret
    rw [HN.out]
    exact ⟨⟨none, 0, rfl, .inl ⟨rfl, rfl, rfl⟩⟩, hB1⟩
  · have hgd := HQ.out.1 rfl
    obtain ⟨g1, g2, g3⟩ := good_lam hgd.2
    have HN : Hid (freesOf k t m e F = fri1 k t F [] []) := (freesOf_yes hgd).trans (fri1_frs1 k t F [] [] (good_nam hgd.2)).symm
    have hbl : Below w1.heap.size w1 (w1.alloc (.cells #[.slice none 0 0] 49)) := (Below.refl _ _).alloc (Nat.le_refl _) _
    have hrow0 : (w1.alloc (.cells #[.slice none 0 0] 49)).rowIs w1.heap.size 49 1 (fun _ => .slice none 0 0) := World.rowIs_alloc w1 #[.slice none 0 0] 49 _ (fun i hi => by
      have h0 : i = 0 := by simp at hi; exact hi
      subst h0; rfl)
    have hNL0 : NL w.heap.size (w1.alloc (.cells #[.slice none 0 0] 49)) w1.heap.size [] := ⟨none, 0, .inl ⟨rfl, rfl, rfl⟩, hrow0, fun e => by cases e⟩
    have hB2 := hB1.trans (hbl.mono hB1.size)
    have hCall := addFrees_all w (F.size + 1) k t m e a c F [] [] none [] w1.heap.size _ (Nat.lt_succ_self _) HI.out hl hc HW.out g1 g2 hB2 hB1.size hNL0 trivial (by show 0 + F.size + 1 ≤ 500000; omega) (show ScIn _ none [] from rfl) (fun _ => rfl)
    clear HQ hgd g1 g2 g3 hrow0 hNL0 hbl f1
    go_wp2_with fail
    refine hCall.mono ?_
    rintro r w3 ⟨rfl, hN3, hW3⟩
    have hB3 := hB2.trans hW3.1
    obtain ⟨a', c', hO, hrow, -⟩ := hN3
    have hcl := hrow.cell (i := 0) (by omega)
    have HO : Hid (OwnT w.heap.size w3 a' c' (fri1 k t F [] [])) := hO
    clear hCall hW3 hB2 hrow hO x0 x1 x2 x3 x4
    go_wp2_with fail
    go_ret
    rw [HN.out]
    exact ⟨⟨a', c', rfl, HO.out⟩, hB3⟩
end Go.Proofs.Ytbbbmmemfndnlaa
/- Trees that ask for the object that they stand in: by the specification, by the program. -/
namespace Go.Proofs.Ytbbbmmemfndnlaa
open Go.RowKit
def SaysA (p : Prop) (r : Ending) : Prop := ∃ q : Bool, r = .returned (.bool q) ∧ (q = true ↔ p)
def HidA (p : Prop) : Prop := p
theorem HidA.out {p : Prop} (h : HidA p) : p := h
/-- a tree of a list asks outside of any object -/
def Fo.asks : Fo → Prop
  | .nil => False
  | .cons k _ _ _ _ _ kids next => ((k = 7 ∨ k = 8) ∨ (k ≠ 22 ∧ kids.asks)) ∨ next.asks
def asksT (k : Int) (F : Fo) : Prop := (k = 7 ∨ k = 8) ∨ (k ≠ 22 ∧ F.asks)
set_option maxRecDepth 100000 in
set_option maxHeartbeats 1000000 in
theorem l6Self_any (N : Nat) : ∀ (k : Int) (t : ByteArray) (m e : Int) (a : Option Addr) (c : Nat) (F : Fo) (w : World), F.size < N → N ≤ 2000000 → F.In w a → F.len ≤ c → c ≤ maxLen →
    Calls Try.prog 34 #[nodeV k t m e a F.len c] w fun r w' => SaysA (asksT k F) r ∧ Below w.heap.size w w' := by
  induction N with
  | zero => intro k t m e a c F w hF; omega
  | succ N ih =>
    intro k t m e a c F w hF hN hin hl hc
    unfold maxLen at hc
    have hll := F.len_le
    have hB0 := (Below.refl _ w).alloc (Nat.le_refl _) (.cells #[.int .i64 k, .string t, .int .i64 m, .int .i64 e, .slice a F.len c] 33)
    by_cases k7 : k = 7
    · have HR : HidA (asksT k F) := .inl (.inl k7)
      subst k7
      clear ih hin
      go_enter Try.func34, Try.ntmps34
      go_wp2_with fail
      go_ret
      exact ⟨⟨true, rfl, fun _ => HR.out, fun _ => rfl⟩, hB0⟩
    by_cases k8 : k = 8
    · have HR : HidA (asksT k F) := .inl (.inr k8)
      subst k8
      clear ih hin
      go_enter Try.func34, Try.ntmps34
      go_wp2_with fail
      go_ret
      exact ⟨⟨true, rfl, fun _ => HR.out, fun _ => rfl⟩, hB0⟩
    by_cases k22 : k = 22
    · have HR : HidA (¬ asksT k F) := fun x => x.elim (fun y => y.elim k7 k8) (fun y => y.1 k22)
      subst k22
      clear ih hin k7 k8
      go_enter Try.func34, Try.ntmps34
      go_wp2_with fail
      go_ret
      exact ⟨⟨false, rfl, fun h => (by cases h), fun h => absurd h HR.out⟩, hB0⟩
    have k7' : (k == 7) = false := by simp [k7]
    have k8' : (k == 8) = false := by simp [k8]
    have k22' : (k == 22) = false := by simp [k22]
    have HT : HidA (asksT k F ↔ F.asks) := ⟨fun x => x.elim (fun y => (y.elim k7 k8).elim) (fun y => y.2), fun x => .inr ⟨k22, x⟩⟩
    clear k7 k8 k22
    go_enter Try.func34, Try.ntmps34
    go_wp2_with fail
    go_loopw [3] (fun i wr => ∃ (j : Nat) (G : Fo), i = .int .i64 j ∧ j + G.len = F.len ∧ (F.asks ↔ G.asks) ∧ G.size ≤ F.size ∧ (G = .nil ∨ ∃ b o', a = some ⟨b, o', none⟩ ∧ G.From wr b (o' + j * 5)) ∧ wr.cell? ⟨w.heap.size, 4, none⟩ = some (.slice a F.len c) ∧ Below w.heap.size w wr) (fun i _ => F.len - (intOf i).toNat)
    case atStart =>
      refine ⟨0, F, rfl, by omega, Iff.rfl, Nat.le_refl _, ?_, by simp, hB0⟩
      rcases hin with h | ⟨b, o', e1, e2⟩
      · exact .inl h
      · exact .inr ⟨b, o', e1, by simpa using Fo.from_grow hB0 F b o' e2⟩
    case round =>
      obtain ⟨j, G, rfl, hj, hs, hs1, hG, hcell, hb⟩ := hrel
      have HA : HidA (F.asks ↔ G.asks) := hs
      clear hs
      cases G with
      | nil =>
        have hj' : j = F.len := by simpa [Fo.len] using hj
        have HR : HidA (¬ asksT k F) := fun x => HA.out.1 (HT.out.1 x)
        subst hj'
        clear hG hj HA HT ih
        go_wp2_with fail
        go_ret
        exact ⟨⟨false, rfl, fun h => (by cases h), fun h => absurd h HR.out⟩, hb⟩
      | cons k' t' m' e' a' c' kids next =>
        rcases hG with hG | ⟨b, o', rfl, ⟨h1, h2, h3, h4, h5⟩, hk, hc1, hc2, _, hn⟩
        · cases hG
        · have hln : j + (next.len + 1) = F.len := hj
          have hlt : (j : Int) < (F.len : Int) := by omega
          have hjl : j < F.len := by omega
          have hsz : kids.size + 1 + next.size ≤ F.size := hs1
          clear hj hs1 hin
          go_wp2_with fail
          refine (ih k' t' m' e' a' c' kids wr (by omega) (by omega) hk hc1 hc2).mono ?_
          rintro r w1 ⟨⟨q, rfl, hq⟩, hb1⟩
          have HQ : HidA (q = true ↔ asksT k' kids) := hq
          have hn1 := Fo.from_grow hb1 next b _ hn
          have hcell1 : w1.cell? ⟨w.heap.size, 4, none⟩ = some (.slice (some ⟨b, o', none⟩) F.len c) := (hb1.cell (p := ⟨w.heap.size, 4, none⟩) (World.block_lt_of_cell? wr _ hcell)).trans hcell
          have hb2 := hb.trans (hb1.mono hb.size)
          clear h1 h2 h3 h4 h5 hk hn hcell hb1 hb ih hq
          cases q
          · have HA2 : HidA (F.asks ↔ next.asks) := HA.out.trans ⟨fun x => x.elim (fun y => absurd (HQ.out.2 y) (by simp)) id, .inr⟩
            clear HQ HA
            go_wp2_with fail
            go_round
            case rel =>
              refine ⟨j + 1, next, by go_num, by omega, HA2.out, by omega, .inr ⟨b, o', rfl, ?_⟩, hcell1, hb2⟩
              rw [show o' + (j + 1) * 5 = o' + j * 5 + 5 by omega]; exact hn1
            case measure => simp [intOf]; omega
          · have HR : HidA (asksT k F) := HT.out.2 (HA.out.2 (.inl (HQ.out.1 rfl)))
            clear HQ HA HT
            go_wp2_with fail
            go_ret
            exact ⟨⟨true, rfl, fun _ => HR.out, fun _ => rfl⟩, hb2⟩
def AskC (N : Nat) : Prop := ∀ (k : Int) (t : ByteArray) (m e : Int) (a : Option Addr) (c : Nat) (F : Fo) (w : World), F.size < N → N ≤ 2000000 → F.In w a → F.len ≤ c → c ≤ maxLen →
  Calls Try.prog 35 #[nodeV k t m e a F.len c] w fun r w' => SaysA (asksT k F) r ∧ Below w.heap.size w w'
set_option maxRecDepth 100000 in
set_option maxHeartbeats 1000000 in
theorem indexAsk_any (N : Nat) (H : AskC N) (a : Option Addr) (c : Nat) (F : Fo) (w : World) (hF : F.size ≤ N) (hN : N ≤ 2000000) (hin : F.In w a) (hl : F.len ≤ c) (hc : c ≤ maxLen) :
    Calls Try.prog 84 #[.slice a F.len c, .func (.func 35) #[] #[]] w fun r w' => (∃ i : Int, r = .returned (.int .i64 i) ∧ (0 ≤ i ↔ F.asks)) ∧ Below w.heap.size w w' := by
  unfold maxLen at hc
  have hll := F.len_le
  have hB0 := Below.refl w.heap.size w
  go_enter Try.func84, Try.ntmps84
  go_wp2_with fail
  go_loopw [8] (fun i wr => ∃ (j : Nat) (G : Fo), i = .int .i64 j ∧ j + G.len = F.len ∧ (F.asks ↔ G.asks) ∧ G.size ≤ F.size ∧ (G = .nil ∨ ∃ b o', a = some ⟨b, o', none⟩ ∧ G.From wr b (o' + j * 5)) ∧ Below w.heap.size w wr) (fun i _ => F.len - (intOf i).toNat)
  case atStart =>
    refine ⟨0, F, rfl, by omega, Iff.rfl, Nat.le_refl _, ?_, hB0⟩
    rcases hin with h | ⟨b, o', e1, e2⟩
    · exact .inl h
    · exact .inr ⟨b, o', e1, by simpa using e2⟩
  case round =>
    obtain ⟨j, G, rfl, hj, hs, hs1, hG, hb⟩ := hrel
    have HA : HidA (F.asks ↔ G.asks) := hs
    clear hs
    cases G with
    | nil =>
      have hj' : j = F.len := by simpa [Fo.len] using hj
      have HR : HidA (¬ F.asks) := fun x => HA.out.1 x
      subst hj'
      clear hG hj HA
      go_wp2_with fail
      go_ret
      exact ⟨⟨-1, rfl, fun h => absurd h (by decide), fun h => absurd h HR.out⟩, hb⟩
    | cons k' t' m' e' a' c' kids next =>
      rcases hG with hG | ⟨b, o', rfl, ⟨h1, h2, h3, h4, h5⟩, hk, hc1, hc2, _, hn⟩
      · cases hG
      · have hln : j + (next.len + 1) = F.len := hj
        have hlt : (j : Int) < (F.len : Int) := by omega
        have hjl : j < F.len := by omega
        have hsz : kids.size + 1 + next.size ≤ F.size := hs1
        clear hj hs1 hin
        go_wp2_with fail
        refine (H k' t' m' e' a' c' kids wr (by omega) (by omega) hk hc1 hc2).mono ?_
        rintro r w1 ⟨⟨q, rfl, hq⟩, hb1⟩
        have HQ : HidA (q = true ↔ asksT k' kids) := hq
        have hn1 := Fo.from_grow hb1 next b _ hn
        have hb2 := hb.trans (hb1.mono hb.size)
        clear h1 h2 h3 h4 h5 hk hn hb1 hb hq
        cases q
        · have HA2 : HidA (F.asks ↔ next.asks) := HA.out.trans ⟨fun x => x.elim (fun y => absurd (HQ.out.2 y) (by simp)) id, .inr⟩
          clear HQ HA
          go_wp2_with fail
          go_round
          case rel =>
            refine ⟨j + 1, next, by go_num, by omega, HA2.out, by omega, .inr ⟨b, o', rfl, ?_⟩, hb2⟩
            rw [show o' + (j + 1) * 5 = o' + j * 5 + 5 by omega]; exact hn1
          case measure => simp [intOf]; omega
        · have HR : HidA F.asks := HA.out.2 (.inl (HQ.out.1 rfl))
          clear HQ HA
          go_wp2_with fail
          go_ret
          exact ⟨⟨(j : Int), rfl, fun _ => HR.out, fun _ => by omega⟩, hb2⟩
set_option maxRecDepth 100000 in
set_option maxHeartbeats 1000000 in
theorem asksOutside_all (N : Nat) : AskC N := by
  induction N with
  | zero => intro k t m e a c F w hF; omega
  | succ N ih =>
    intro k t m e a c F w hF hN hin hl hc
    have hB0 := (Below.refl _ w).alloc (Nat.le_refl _) (.cells #[.int .i64 k, .string t, .int .i64 m, .int .i64 e, .slice a F.len c] 33)
    by_cases k7 : k = 7
    · have HR : HidA (asksT k F) := .inl (.inl k7)
      subst k7
      clear ih hin
      go_enter Try.func35, Try.ntmps35
      go_wp2_with fail
      go_ret
      exact ⟨⟨true, rfl, fun _ => HR.out, fun _ => rfl⟩, hB0⟩
    by_cases k8 : k = 8
    · have HR : HidA (asksT k F) := .inl (.inr k8)
      subst k8
      clear ih hin
      go_enter Try.func35, Try.ntmps35
      go_wp2_with fail
      go_ret
      exact ⟨⟨true, rfl, fun _ => HR.out, fun _ => rfl⟩, hB0⟩
    by_cases k22 : k = 22
    · have HR : HidA (¬ asksT k F) := fun x => x.elim (fun y => y.elim k7 k8) (fun y => y.1 k22)
      subst k22
      clear ih hin k7 k8
      go_enter Try.func35, Try.ntmps35
      go_wp2_with fail
      go_ret
      exact ⟨⟨false, rfl, fun h => (by cases h), fun h => absurd h HR.out⟩, hB0⟩
    have k7' : (k == 7) = false := by simp [k7]
    have k8' : (k == 8) = false := by simp [k8]
    have k22' : (k == 22) = false := by simp [k22]
    have HT : HidA (asksT k F ↔ F.asks) := ⟨fun x => x.elim (fun y => (y.elim k7 k8).elim) (fun y => y.2), fun x => .inr ⟨k22, x⟩⟩
    have HC : HidA (Calls Try.prog 58 #[.slice a F.len c, .func (.func 35) #[] #[]] (w.alloc (.cells #[.int .i64 k, .string t, .int .i64 m, .int .i64 e, .slice a F.len c] 33)) fun r w' => SaysA F.asks r ∧ Below (w.alloc (.cells #[.int .i64 k, .string t, .int .i64 m, .int .i64 e, .slice a F.len c] 33)).heap.size (w.alloc (.cells #[.int .i64 k, .string t, .int .i64 m, .int .i64 e, .slice a F.len c] 33)) w') := by
      have HI := indexAsk_any N ih a c F _ (by omega) (by omega) (hin.grow hB0) hl hc
      generalize w.alloc (.cells #[.int .i64 k, .string t, .int .i64 m, .int .i64 e, .slice a F.len c] 33) = W at HI ⊢
      clear hB0 ih hin k7 k8 k22 k7' k8' k22' HT
      show Calls _ _ _ _ _
      go_enter Try.func58, Try.ntmps58
      go_wp2_with fail
      refine HI.mono ?_
      rintro r w1 ⟨⟨i, rfl, hi⟩, hb1⟩
      have HI2 : HidA (0 ≤ i ↔ F.asks) := hi
      clear hi HI
      go_wp2_with fail
      go_ret
      exact ⟨⟨_, rfl, by rw [← HI2.out]; simp⟩, hb1⟩
    clear k7 k8 k22 hin ih
    go_enter Try.func35, Try.ntmps35
    go_wp2_with fail
    refine HC.out.mono ?_
    rintro r w1 ⟨⟨q, rfl, hq⟩, hb1⟩
    have HQ : HidA (q = true ↔ asksT k F) := hq.trans HT.out.symm
    have hB1 := hB0.trans (hb1.mono hB0.size)
    clear hq hb1 HC HT
    go_wp2_with fail
    go_ret
    exact ⟨⟨q, rfl, HQ.out⟩, hB1⟩
end Go.Proofs.Ytbbbmmemfndnlaa
/- What is wrong with names first: ScopeCheck of both. -/
namespace Go.Proofs.Ytbbbmmemfndnlaa
open Go.RowKit
attribute [local go_sem] cell_alloc_is frozen_alloc_is
open Classical in
/-- what is wrong with the names of a tree first -/
noncomputable def scopeOf (k : Int) (t : ByteArray) (m e : Int) (F : Fo) : Int :=
  if ¬ k = 23 ∧ TreeGood k t m e F then (if freesOf k t m e F ≠ [] then 1 else if asksT k F then 2 else 0) else 0
set_option maxRecDepth 100000 in
set_option maxHeartbeats 1000000 in
theorem sScope_any (k : Int) (t : ByteArray) (m e : Int) (a : Option Addr) (c : Nat) (F : Fo) (w : World) (hF : F.size ≤ 1050000) (hin : F.In w a) (hl : F.len ≤ c) (hc : c ≤ maxLen) (ht : t.size ≤ maxLen) :
    Calls Try.prog 16 #[nodeV k t m e a F.len c] w fun r w' => r = .returned (.int .i64 (scopeOf k t m e F)) ∧ Below w.heap.size w w' := by
  have hb0 : Below w.heap.size w (w.alloc (.cells #[.int .i64 k, .string t, .int .i64 m, .int .i64 e, .slice a F.len c] 33)) := (Below.refl _ _).alloc (Nat.le_refl _) _
  have f0 := BoxN.new w k t m e (.slice a F.len c)
  have HC := sTreeOk_any k t m e a c F _ (by omega) (hin.grow hb0) hl hc ht
  have HI : Hid (F.In w a) := hin
  clear hin
  obtain ⟨x0, x1, x2, x3, x4⟩ := f0.cells
  go_enter Try.func16, Try.ntmps16
  go_wp2_with fail
  refine HC.mono ?_
  rintro r w1 ⟨⟨q, rfl, hq⟩, hb1⟩
  have HQ : Hid (q = true ↔ (¬ k = 23 ∧ TreeGood k t m e F)) := hq
  have f1 := f0.below hb1
  have hB1 := hb0.trans (hb1.mono hb0.size)
  clear hq hb0 hb1 f0 HC x0 x1 x2 x3 x4
  obtain ⟨x0, x1, x2, x3, x4⟩ := f1.cells
  cases q
  · have HN : Hid (scopeOf k t m e F = 0) := if_neg fun h => by have := HQ.out.2 h; cases this
    clear HQ
    go_wp2_with fail
    go_ret
    exact ⟨by rw [HN.out]; rfl, hB1⟩
  · have hgd := HQ.out.1 rfl
    obtain ⟨g1, g2, g3⟩ := good_lam hgd.2
    have hFr := sFrees_any k t m e a c F w1 (by omega) (HI.out.grow hB1) hl hc ht
    clear HQ g1 g2
    go_wp2_with fail
    refine hFr.mono ?_
    rintro r w2 ⟨⟨a2, c2, rfl, h2⟩, hb2⟩
    have f2 := f1.below hb2
    have hB2 := hB1.trans (hb2.mono hB1.size)
    clear hFr h2 hb2 f1 hB1 x0 x1 x2 x3 x4
    obtain ⟨x0, x1, x2, x3, x4⟩ := f2.cells
    generalize hns : freesOf k t m e F = ns
    by_cases hn0 : ns.length = 0
    · have hn1 : ((ns.length : Nat) : Int) = 0 := by omega
      have hnil : ns = [] := List.eq_nil_of_length_eq_zero hn0
      have HN : Hid (asksT k F → scopeOf k t m e F = 2) := fun h => by unfold scopeOf; rw [if_pos hgd, if_neg (by rw [hns, hnil]; simp), if_pos h]
      have HN0 : Hid (¬ asksT k F → scopeOf k t m e F = 0) := fun h => by unfold scopeOf; rw [if_pos hgd, if_neg (by rw [hns, hnil]; simp), if_neg h]
      have hSf := l6Self_any 2000000 k t m e a c F w2 (by omega) (Nat.le_refl _) (HI.out.grow hB2) hl hc
      subst hnil
      clear hns hn0 hn1 hgd
      go_wp2_with fail
      refine hSf.mono ?_
      rintro r w3 ⟨⟨q, rfl, hq⟩, hb3⟩
      have HQ : Hid (q = true ↔ asksT k F) := hq
      have hB3 := hB2.trans (hb3.mono hB2.size)
      clear hSf hq hb3 hB2 f2 x0 x1 x2 x3 x4
      cases q
      · have HZ : Hid (scopeOf k t m e F = 0) := HN0.out fun h => by have := HQ.out.2 h; cases this
        clear HQ HN HN0
        go_wp2_with fail
        go_ret
        exact ⟨by rw [HZ.out]; rfl, hB3⟩
      · have HZ : Hid (scopeOf k t m e F = 2) := HN.out (HQ.out.1 rfl)
        clear HQ HN HN0
        go_wp2_with fail
        go_ret
        exact ⟨by rw [HZ.out]; rfl, hB3⟩
    · have hgt : (ns.length : Int) > 0 := by omega
      have HZ : Hid (scopeOf k t m e F = 1) := by unfold Hid scopeOf; rw [if_pos hgd, if_pos (by rw [hns]; intro h; rw [h] at hn0; exact hn0 rfl)]
      have hg0 : 0 < ns.length := by omega
      clear hns hgd hn0 f2
      go_wp2_with fail
      go_ret
      exact ⟨by rw [HZ.out]; rfl, hB2⟩
set_option maxRecDepth 100000 in
set_option maxHeartbeats 1000000 in
theorem iScope_any (k : Int) (t : ByteArray) (m e : Int) (a : Option Addr) (c : Nat) (F : Fo) (w : World) (hF : F.size ≤ 1050000) (hin : F.In w a) (hl : F.len ≤ c) (hc : c ≤ maxLen) (ht : t.size ≤ maxLen) (hw : t.size ≤ 1048576 ∧ F.wt ≤ 1048576) :
    Calls Try.prog 17 #[nodeV k t m e a F.len c] w fun r w' => r = .returned (.int .i64 (scopeOf k t m e F)) ∧ Below w.heap.size w w' := by
  have hb0 : Below w.heap.size w (w.alloc (.cells #[.int .i64 k, .string t, .int .i64 m, .int .i64 e, .slice a F.len c] 33)) := (Below.refl _ _).alloc (Nat.le_refl _) _
  have f0 := BoxN.new w k t m e (.slice a F.len c)
  have HC := iTreeOk_any k t m e a c F _ (by omega) (hin.grow hb0) hl hc ht
  have HI : Hid (F.In w a) := hin
  have HW : Hid (t.size ≤ 1048576 ∧ F.wt ≤ 1048576) := hw
  clear hw
  clear hin
  obtain ⟨x0, x1, x2, x3, x4⟩ := f0.cells
  go_enter Try.func17, Try.ntmps17
  go_wp2_with fail
  refine HC.mono ?_
  rintro r w1 ⟨⟨q, rfl, hq⟩, hb1⟩
  have HQ : Hid (q = true ↔ (¬ k = 23 ∧ TreeGood k t m e F)) := hq
  have f1 := f0.below hb1
  have hB1 := hb0.trans (hb1.mono hb0.size)
  clear hq hb0 hb1 f0 HC x0 x1 x2 x3 x4
  obtain ⟨x0, x1, x2, x3, x4⟩ := f1.cells
  cases q
  · have HN : Hid (scopeOf k t m e F = 0) := if_neg fun h => by have := HQ.out.2 h; cases this
    clear HQ
    go_wp2_with fail
    go_ret
    exact ⟨by rw [HN.out]; rfl, hB1⟩
  · have hgd := HQ.out.1 rfl
    obtain ⟨g1, g2, g3⟩ := good_lam hgd.2
    have hFr := iFrees_any k t m e a c F w1 (by omega) (HI.out.grow hB1) hl hc ht HW.out
    clear HQ g1 g2
    go_wp2_with fail
    refine hFr.mono ?_
    rintro r w2 ⟨⟨a2, c2, rfl, h2⟩, hb2⟩
    have f2 := f1.below hb2
    have hB2 := hB1.trans (hb2.mono hB1.size)
    clear hFr h2 hb2 f1 hB1 x0 x1 x2 x3 x4
    obtain ⟨x0, x1, x2, x3, x4⟩ := f2.cells
    generalize hns : freesOf k t m e F = ns
    by_cases hn0 : ns.length = 0
    · have hn1 : ((ns.length : Nat) : Int) = 0 := by omega
      have hnil : ns = [] := List.eq_nil_of_length_eq_zero hn0
      have HN : Hid (asksT k F → scopeOf k t m e F = 2) := fun h => by unfold scopeOf; rw [if_pos hgd, if_neg (by rw [hns, hnil]; simp), if_pos h]
      have HN0 : Hid (¬ asksT k F → scopeOf k t m e F = 0) := fun h => by unfold scopeOf; rw [if_pos hgd, if_neg (by rw [hns, hnil]; simp), if_neg h]
      have hSf := asksOutside_all 2000000 k t m e a c F w2 (by omega) (Nat.le_refl _) (HI.out.grow hB2) hl hc
      subst hnil
      clear hns hn0 hn1 hgd
      go_wp2_with fail
      refine hSf.mono ?_
      rintro r w3 ⟨⟨q, rfl, hq⟩, hb3⟩
      have HQ : Hid (q = true ↔ asksT k F) := hq
      have hB3 := hB2.trans (hb3.mono hB2.size)
      clear hSf hq hb3 hB2 f2 x0 x1 x2 x3 x4
      cases q
      · have HZ : Hid (scopeOf k t m e F = 0) := HN0.out fun h => by have := HQ.out.2 h; cases this
        clear HQ HN HN0
        go_wp2_with fail
        go_ret
        exact ⟨by rw [HZ.out]; rfl, hB3⟩
      · have HZ : Hid (scopeOf k t m e F = 2) := HN.out (HQ.out.1 rfl)
        clear HQ HN HN0
        go_wp2_with fail
        go_ret
        exact ⟨by rw [HZ.out]; rfl, hB3⟩
    · have hgt : (ns.length : Int) > 0 := by omega
      have HZ : Hid (scopeOf k t m e F = 1) := by unfold Hid scopeOf; rw [if_pos hgd, if_pos (by rw [hns]; intro h; rw [h] at hn0; exact hn0 rfl)]
      have hg0 : 0 < ns.length := by omega
      clear hns hgd hn0 f2
      go_wp2_with fail
      go_ret
      exact ⟨by rw [HZ.out]; rfl, hB2⟩
end Go.Proofs.Ytbbbmmemfndnlaa
/- The law FnExactScopeCheck walked. -/
namespace Go.Proofs.Ytbbbmmemfndnlaa
open Go.RowKit
/-- a copy of a tree, in new memory -/
def Copied (w w' : World) (k : Int) (t : ByteArray) (m e : Int) (F : Fo) (r : Ending) : Prop :=
  ∃ (nb : Nat) (F' : Fo), r = .returned (nodeV k t m e (some ⟨nb, 0, none⟩) F'.len F'.len) ∧ w.heap.size ≤ nb ∧ F'.alike F ∧ F'.Blk (fun b => w.heap.size ≤ b) ∧ F'.From w' nb 0
theorem toNode_any (k : Int) (t : ByteArray) (m e : Int) (a : Option Addr) (c : Nat) (F : Fo) (w : World) (h0 : F.size ≤ 2000000) (h1 : F.In w a) (h2 : F.len ≤ c) (h3 : c ≤ maxLen) (h4 : t.size ≤ maxLen) :
      Calls Try.prog 9 #[nodeV k t m e a F.len c] w fun r w' => Copied w w' k t m e F r ∧ Below w.heap.size w w' :=
  toNode_all (F.size + 1) k t m e a c F w (by omega) h0 h1 h2 h3 h4
theorem alike_sym : ∀ {G F : Fo}, F.alike G → G.alike F := by
  intro G
  induction G with
  | nil => intro F h; rw [Fo.alike_nil h]; trivial
  | cons k t m e a c kids next ih1 ih2 =>
    intro F h
    obtain ⟨a', c', kids', next', rfl, h1, h2⟩ := Fo.alike_cons h
    exact ⟨⟨rfl, rfl, rfl, rfl⟩, ih1 h1, ih2 h2⟩
theorem alike_trans : ∀ {G F E : Fo}, F.alike G → G.alike E → F.alike E := by
  intro G
  induction G with
  | nil => intro F E h1 h2; rw [Fo.alike_nil h1]; exact h2
  | cons k t m e a c kids next ih1 ih2 =>
    intro F E h1 h2
    obtain ⟨a', c', kids', next', rfl, h3, h4⟩ := Fo.alike_cons h1
    cases E with
    | nil => exact h2.elim
    | cons k2 t2 m2 e2 a2 c2 kids2 next2 =>
      obtain ⟨⟨rfl, rfl, rfl, rfl⟩, h5, h6⟩ := h2
      exact ⟨⟨rfl, rfl, rfl, rfl⟩, ih1 h3 h5, ih2 h4 h6⟩
/-- two boxes with a tree in each, and nothing old changed -/
abbrev HeldT (W0 : World) (b b2 : Nat) (k : Int) (t : ByteArray) (m e : Int) (v v2 : Value) (w : World) : Prop :=
  (w.cell? ⟨b, 0, none⟩ = some (.int .i64 k) ∧ w.cell? ⟨b, 1, none⟩ = some (.string t) ∧ w.cell? ⟨b, 2, none⟩ = some (.int .i64 m) ∧ w.cell? ⟨b, 3, none⟩ = some (.int .i64 e) ∧ w.cell? ⟨b, 4, none⟩ = some v) ∧
  (w.cell? ⟨b2, 0, none⟩ = some (.int .i64 k) ∧ w.cell? ⟨b2, 1, none⟩ = some (.string t) ∧ w.cell? ⟨b2, 2, none⟩ = some (.int .i64 m) ∧ w.cell? ⟨b2, 3, none⟩ = some (.int .i64 e) ∧ w.cell? ⟨b2, 4, none⟩ = some v2) ∧ Below W0.heap.size W0 w
theorem HeldT.grow {W0 w w' : World} {b b2 : Nat} {k : Int} {t : ByteArray} {m e : Int} {v v2 : Value} (h : HeldT W0 b b2 k t m e v v2 w) (hb : Below w.heap.size w w') : HeldT W0 b b2 k t m e v v2 w' := by
  obtain ⟨⟨x0, x1, x2, x3, x4⟩, ⟨y0, y1, y2, y3, y4⟩, h3⟩ := h
  have l1 := World.block_lt_of_cell? w _ x0
  have l2 := World.block_lt_of_cell? w _ y0
  exact ⟨⟨(hb.cell (p := ⟨b, 0, none⟩) l1).trans x0, (hb.cell (p := ⟨b, 1, none⟩) l1).trans x1, (hb.cell (p := ⟨b, 2, none⟩) l1).trans x2, (hb.cell (p := ⟨b, 3, none⟩) l1).trans x3, (hb.cell (p := ⟨b, 4, none⟩) l1).trans x4⟩,
    ⟨(hb.cell (p := ⟨b2, 0, none⟩) l2).trans y0, (hb.cell (p := ⟨b2, 1, none⟩) l2).trans y1, (hb.cell (p := ⟨b2, 2, none⟩) l2).trans y2, (hb.cell (p := ⟨b2, 3, none⟩) l2).trans y3, (hb.cell (p := ⟨b2, 4, none⟩) l2).trans y4⟩, h3.trans (hb.mono h3.size)⟩
theorem HeldT.drew {W0 w : World} {b b2 : Nat} {k : Int} {t : ByteArray} {m e : Int} {v v2 : Value} (h : HeldT W0 b b2 k t m e v v2 w) : HeldT W0 b b2 k t m e v v2 w.drew := h.grow ((Below.refl _ _).drew)
/-- two copies of one are alike -/
theorem alike_swap {E F G : Fo} (h : F.alike E) (k : G.alike E) : F.alike G := alike_trans h (alike_sym k)
theorem frees_alike {F' F : Fo} (h : F'.alike F) (k : Int) (t : ByteArray) (m e : Int) : freesOf k t m e F' = freesOf k t m e F := by
  have hi : frs1 k t F' [] [] = frs1 k t F [] [] := by
    unfold frs1
    rw [alike_frs h k t F' F [] 0 [] h]
  by_cases hg : ¬ k = 23 ∧ TreeGood k t m e F
  · rw [freesOf_yes hg, freesOf_yes ((alike_good h k t m e).2 hg), hi]
  · rw [freesOf_no hg, freesOf_no (fun x => hg ((alike_good h k t m e).1 x))]
theorem alike_asks : ∀ {G F : Fo}, F.alike G → (F.asks ↔ G.asks) := by
  intro G
  induction G with
  | nil => intro F h; rw [Fo.alike_nil h]
  | cons k t m e a c kids next ih1 ih2 =>
    intro F h
    obtain ⟨a', c', kids', next', rfl, h1, h2⟩ := Fo.alike_cons h
    show (((k = 7 ∨ k = 8) ∨ (k ≠ 22 ∧ kids'.asks)) ∨ next'.asks) ↔ (((k = 7 ∨ k = 8) ∨ (k ≠ 22 ∧ kids.asks)) ∨ next.asks)
    rw [ih1 h1, ih2 h2]
theorem scope_alike {F' F : Fo} (h : F'.alike F) (k : Int) (t : ByteArray) (m e : Int) : scopeOf k t m e F' = scopeOf k t m e F := by
  have hA : asksT k F' ↔ asksT k F := by unfold asksT; rw [alike_asks h]
  unfold scopeOf
  rw [frees_alike h]
  by_cases hg : ¬ k = 23 ∧ TreeGood k t m e F
  · rw [if_pos hg, if_pos ((alike_good h k t m e).2 hg)]
    by_cases hq : asksT k F
    · rw [if_pos hq, if_pos (hA.2 hq)]
    · rw [if_neg hq, if_neg (fun x => hq (hA.1 x))]
  · rw [if_neg hg, if_neg (fun x => hg ((alike_good h k t m e).1 x))]
theorem alike_wtS : ∀ {F' F : Fo}, F'.alike F → F'.wt = F.wt := by
  intro F' F
  induction F generalizing F' with
  | nil => intro h; rw [Fo.alike_nil h]
  | cons k t m e a c kids next ih1 ih2 =>
    intro h
    obtain ⟨a', c', kids', next', rfl, h1, h2⟩ := Fo.alike_cons h
    show t.size + kids'.wt + 1 + next'.wt = t.size + kids.wt + 1 + next.wt
    rw [ih1 h1, ih2 h2]
set_option maxRecDepth 100000 in
set_option maxHeartbeats 2000000 in
theorem walk_FnExactScopeCheck (k : Int) (t : ByteArray) (m e : Int) (a : Option Addr) (F : Fo) (c : Nat) (w : World) (hh : HeadOk k t m e) (hin : F.In w a) (hl : F.len ≤ c) (hc : c ≤ maxLen) (_hA : F.All HeadOk) :
    Calls Try.prog 4 #[nodeV k t m e a F.len c] w fun r w' => r = .returned (.bool true) ∧ Below w.heap.size w w' := by
  have ht := hh.2.1
  clear hh
  have hsw := F.size_wt
  have hB0 := (Below.refl _ w).alloc (Nat.le_refl _) (.cells #[.int .i64 k, .string t, .int .i64 m, .int .i64 e, .slice a F.len c] 26)
  have hf0 := Five.new w (.int .i64 k) (.string t) (.int .i64 m) (.int .i64 e) (.slice a F.len c) 26
  have HSz := fun W hW => szNode_any k t m e a c F W 1048576 hW hl hc ht (by omega)
  have HI : Hid (∀ W, Below w.heap.size w W → F.In W a) := fun W h => hin.grow h
  clear hin
  go_enter Try.func4, Try.ntmps4
  go_wp2_with fail
  refine (HSz _ (HI.out _ hB0)).mono ?_
  rintro r w1 ⟨rfl, hb1⟩
  have hB1 := hB0.trans (hb1.mono hB0.size)
  have hf1 := hf0.below hb1 hf0.lt
  obtain ⟨⟨x0, x1, x2, x3, x4⟩, _⟩ := hf1
  clear hb1 hB0 HSz hf0
  by_cases hneed : t.size + F.wt ≤ 1048576
  · obtain ⟨d, hd⟩ : ∃ d : Nat, leftOf (t.size + F.wt) 1048576 = (d : Int) := ⟨1048576 - (t.size + F.wt), by unfold leftOf; rw [if_pos hneed]⟩
    rw [hd]
    clear hd
    have hd0 : ¬ (d : Int) < 0 := by omega
    have hsz2 : F.size ≤ 1048576 := by omega
    have hlm : F.len ≤ maxLen := Nat.le_trans hl hc
    have HC := fun W hW => toNode_any k t m e a c F W (by omega) hW hl hc ht
    go_wp2_with fail
    refine (HC _ (HI.out _ hB1)).mono ?_
    rintro r w2 ⟨⟨nb1, F1, rfl, hn1, ha1, hk1, hF1⟩, hb2⟩
    have hB2 := hB1.trans (hb2.mono hB1.size)
    have hlt1 := World.block_lt_of_cell? _ _ x0
    have y0 := (hb2.cell (p := ⟨w.heap.size, 0, none⟩) hlt1).trans x0
    have y1 := (hb2.cell (p := ⟨w.heap.size, 1, none⟩) hlt1).trans x1
    have y2 := (hb2.cell (p := ⟨w.heap.size, 2, none⟩) hlt1).trans x2
    have y3 := (hb2.cell (p := ⟨w.heap.size, 3, none⟩) hlt1).trans x3
    have y4 := (hb2.cell (p := ⟨w.heap.size, 4, none⟩) hlt1).trans x4
    clear x0 x1 x2 x3 x4
    clear hb2 hB1 hlt1
    have hs1 : F1.size ≤ 1048576 := by rw [Fo.alike_size ha1]; exact hsz2
    have hl1 : F1.len ≤ maxLen := by rw [Fo.alike_len ha1]; exact hlm
    go_wp2_with fail
    refine (sScope_any k t m e (some ⟨nb1, 0, none⟩) F1.len F1 _ (by omega) (.inr ⟨nb1, 0, rfl, hF1⟩) (Nat.le_refl _) (by omega) ht).mono ?_
    rintro r w3 ⟨rfl, hb3⟩
    rw [scope_alike ha1]
    have hB3 := hB2.trans (hb3.mono hB2.size)
    have hlt2 := World.block_lt_of_cell? _ _ y0
    have z0 := (hb3.cell (p := ⟨w.heap.size, 0, none⟩) hlt2).trans y0
    have z1 := (hb3.cell (p := ⟨w.heap.size, 1, none⟩) hlt2).trans y1
    have z2 := (hb3.cell (p := ⟨w.heap.size, 2, none⟩) hlt2).trans y2
    have z3 := (hb3.cell (p := ⟨w.heap.size, 3, none⟩) hlt2).trans y3
    have z4 := (hb3.cell (p := ⟨w.heap.size, 4, none⟩) hlt2).trans y4
    clear y0 y1 y2 y3 y4
    clear hb3 hB2 hlt2 hF1 hk1 hn1
    go_wp2_with fail
    refine (HC _ (HI.out _ hB3)).mono ?_
    rintro r w4 ⟨⟨nb2, F2, rfl, hn2, ha2, hk2, hF2a⟩, hb4⟩
    have hB4a := hB3.trans (hb4.mono hB3.size)
    have hbx := (Below.refl _ w4).alloc (Nat.le_refl _) (.cells #[.int .i64 k, .string t, .int .i64 m, .int .i64 e, .slice (some ⟨nb2, 0, none⟩) F2.len F2.len] 33)
    have hB4 := hB4a.trans (hbx.mono hB4a.size)
    have hg0 := Five.new w4 (.int .i64 k) (.string t) (.int .i64 m) (.int .i64 e) (.slice (some ⟨nb2, 0, none⟩) F2.len F2.len) 33
    have hF2 := Fo.from_grow hbx F2 _ _ hF2a
    have hxx := hb4.trans (hbx.mono hb4.size)
    have hlt3 := World.block_lt_of_cell? _ _ z0
    have u0 := (hxx.cell (p := ⟨w.heap.size, 0, none⟩) hlt3).trans z0
    have u1 := (hxx.cell (p := ⟨w.heap.size, 1, none⟩) hlt3).trans z1
    have u2 := (hxx.cell (p := ⟨w.heap.size, 2, none⟩) hlt3).trans z2
    have u3 := (hxx.cell (p := ⟨w.heap.size, 3, none⟩) hlt3).trans z3
    have u4 := (hxx.cell (p := ⟨w.heap.size, 4, none⟩) hlt3).trans z4
    clear z0 z1 z2 z3 z4
    clear hb4 hB3 hlt3 hk2 hn2 hF2a hxx hbx hB4a
    have hs2 : F2.size ≤ 1048576 := by rw [Fo.alike_size ha2]; exact hsz2
    have hl2 : F2.len ≤ maxLen := by rw [Fo.alike_len ha2]; exact hlm
    go_wp2_with fail
    refine (iScope_any k t m e (some ⟨nb2, 0, none⟩) F2.len F2 _ (by omega) (.inr ⟨nb2, 0, rfl, hF2⟩) (Nat.le_refl _) (by omega) ht (by rw [alike_wtS ha2]; omega)).mono ?_
    rintro r w5 ⟨rfl, hb5⟩
    rw [scope_alike ha2]
    have hB5 := hB4.trans (hb5.mono hB4.size)
    have hlt4 := World.block_lt_of_cell? _ _ u0
    have hF5 := Fo.from_grow hb5 F2 _ _ hF2
    have hg5 := hg0.below hb5 hg0.lt
    have v0 := (hb5.cell (p := ⟨w.heap.size, 0, none⟩) hlt4).trans u0
    have v1 := (hb5.cell (p := ⟨w.heap.size, 1, none⟩) hlt4).trans u1
    have v2 := (hb5.cell (p := ⟨w.heap.size, 2, none⟩) hlt4).trans u2
    have v3 := (hb5.cell (p := ⟨w.heap.size, 3, none⟩) hlt4).trans u3
    have v4 := (hb5.cell (p := ⟨w.heap.size, 4, none⟩) hlt4).trans u4
    clear u0 u1 u2 u3 u4
    clear hb5 hB4 hlt4 hF2 hg0
    generalize scopeOf k t m e F = q
    have hqq : (q != q) = false := by simp
    obtain ⟨⟨p0, p1, p2, p3, p4⟩, _⟩ := hg5
    have hS0 : HeldT w5 w.heap.size w4.heap.size k t m e (.slice a F.len c) (.slice (some ⟨nb2, 0, none⟩) F2.len F2.len) w5 := ⟨⟨v0, v1, v2, v3, v4⟩, ⟨p0, p1, p2, p3, p4⟩, Below.refl _ _⟩
    have HI5 : Hid (∀ W, Below w5.heap.size w5 W → F.In W a) := fun W h => HI.out W (hB5.trans (h.mono hB5.size))
    clear v0 v1 v2 v3 v4 p0 p1 p2 p3 p4 HI
    go_wp2_with fail
    refine wp_region_held_drew (S := fun w' => HeldT w5 w.heap.size w4.heap.size k t m e (.slice a F.len c) (.slice (some ⟨nb2, 0, none⟩) F2.len F2.len) w') (by kernel_rfl) (HeldT.drew hS0) (fun hHeld => ?_)
    refine wpAnyH_take (i := 0) (v := nodeV k t m e (some ⟨nb2, 0, none⟩) F2.len F2.len) rfl (by kernel_rfl) (by kernel_rfl) (by kernel_rfl) (fun _ _ _ h => h) (Or.inl ⟨by rfl, ?_⟩) (by assumption) ?_
    · intro w hSw
      (try dsimp only at hSw)
      go_simp
    (try simp only [Act.put, List.getElem_toArray, List.getElem_cons_zero, List.setIfInBounds_toArray, List.set_cons_zero, List.set_cons_succ])
    refine wpAnyH_take (i := 1) (v := nodeV k t m e a F.len c) rfl (by kernel_rfl) (by kernel_rfl) (by kernel_rfl) (fun _ _ _ h => h) (Or.inl ⟨by rfl, ?_⟩) (by assumption) ?_
    · intro w hSw
      (try dsimp only at hSw)
      go_simp
    (try simp only [Act.put, List.getElem_toArray, List.getElem_cons_zero, List.getElem_cons_succ, List.setIfInBounds_toArray, List.set_cons_zero, List.set_cons_succ])
    refine wpAnyH_ready (rs := [2]) (by kernel_rfl) (by simp) ?_
    refine AllReadyH.cons rfl (fun K hK => ?_) AllReadyH.nil
    go_simp
    refine (HC _ (HI5.out _ (by assumption : HeldT w5 w.heap.size w4.heap.size k t m e (.slice a F.len c) (.slice (some ⟨nb2, 0, none⟩) F2.len F2.len) _).2.2)).mono ?_
    rintro r w6 ⟨⟨nb3, F3, rfl, hn3, ha3, hk3, hF3⟩, hb6⟩
    have hl3 : F3.len ≤ maxLen := by rw [Fo.alike_len ha3]; exact hlm
    have ha23 := alike_swap ha2 ha3
    have hS := HeldT.grow (by assumption) hb6
    go_wp2_with fail
    refine hK.out _ _ hS (fun hHeld => ?_)
    clear hK K hS
    refine wpAnyH_ready (rs := [3]) (by kernel_rfl) (by simp) ?_
    refine AllReadyH.cons rfl (fun K hK => ?_) AllReadyH.nil
    go_simp
    refine (eqNode_all (F2.size + 1) k t m e (some ⟨nb2, 0, none⟩) (some ⟨nb3, 0, none⟩) F2.len F3.len F2 F3 _ (by omega) ha23 (.inr ⟨nb2, 0, rfl, Fo.from_grow hHeld.2.2 F2 _ _ hF5⟩) (.inr ⟨nb3, 0, rfl, hF3⟩) (Nat.le_refl _) (by omega) (Nat.le_refl _) (by omega)).mono ?_
    rintro r w7 ⟨rfl, hb7⟩
    have hS := HeldT.grow (by assumption) hb7
    go_wp2_with fail
    refine hK.out _ _ hS (fun hHeld => ?_)
    clear hK K hS
    refine wpAnyH_take (i := 4) (v := .bool false) rfl (by kernel_rfl) (by kernel_rfl) (by kernel_rfl) (fun _ _ _ h => h) (Or.inl ⟨by rfl, ?_⟩) (by assumption) ?_
    · intro w hSw
      (try dsimp only at hSw)
      go_simp
    (try simp only [Act.put, List.getElem_toArray, List.getElem_cons_zero, List.getElem_cons_succ, List.setIfInBounds_toArray, List.set_cons_zero, List.set_cons_succ])
    refine wpAnyH_done (by kernel_rfl) ?_ _
    have hB7 := hB5.trans (hHeld.2.2.mono hB5.size)
    clear hF5 hF3
    go_wp2_with fail
    go_ret
    exact ⟨rfl, hB7⟩
  · have hd : leftOf (t.size + F.wt) 1048576 = -1 := by unfold leftOf; rw [if_neg hneed]
    rw [hd]
    go_wp2_with fail
    go_ret
    exact ⟨rfl, hB1⟩
end Go.Proofs.Ytbbbmmemfndnlaa
