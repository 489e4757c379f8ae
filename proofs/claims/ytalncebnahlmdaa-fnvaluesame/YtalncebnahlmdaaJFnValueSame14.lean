/- My own texts, joined: Uo Uk. -/
import Derived.Test.YtalncebnahlmdaaJFnValueSame12
import Derived.Test.YtalncebnahlmdaaJFnValueSame13
/- A copy of a value, by the specification: the two regions that draw. -/
namespace Go.Proofs.Ytalncebnahlmdaa
open Go.RowKit
/-- what l13Copy answers -/
def CopyC (N : Nat) : Prop := ∀ (h : Hd) (a : Option Addr) (c : Nat) (F : Vo) (w : World), F.size < N → F.size ≤ 1100000 → F.few 1100000 → h.ns.length ≤ 1100000 → F.In w a → F.len ≤ c → c ≤ maxLen → h.In w →
  Calls Try.prog 30 #[valV h a F.len c] w fun r w' => (∃ h' a' c' F', r = .returned (valV h' a' F'.len c') ∧ h'.same h ∧ F'.alike F ∧ OwnS w.heap.size w' h' a' c' F') ∧ Below w.heap.size w w'
theorem row_grown {w w' : World} {b : Nat} {r : Option Nat} {vs : List Value} (h : Row w b vs) (hg : w.grownBy w' r) (hr : r ≠ some b) : Row w' b vs := fun i v hi => by
  have hl := World.block_lt_of_cell? w _ (h i v hi).1
  exact ⟨(World.cell?_of_block (a := ⟨b, i, none⟩) (hg.block b hl (fun e => hr e.symm))).trans (h i v hi).1, (World.frozen?_of_block (a := ⟨b, i, none⟩) (hg.block b hl (fun e => hr e.symm))).trans (h i v hi).2⟩
theorem below_gr {B : Nat} {w w' : World} {r : Option Nat} (h : Below B w w') (hB : B = w.heap.size) : w.grownBy w' r := by
  subst hB
  exact ⟨h.os, h.tape, h.output, h.size, fun k hk _ => h.block k hk⟩
theorem gr_trans {a b c : World} {r : Option Nat} (h : a.grownBy b r) (k : b.grownBy c r) : a.grownBy c r := ⟨k.os.trans h.os, k.tape.trans h.tape, k.output.trans h.output, Nat.le_trans h.size k.size, fun i hi hn => (k.block i (Nat.lt_of_lt_of_le hi h.size) hn).trans (h.block i hi hn)⟩
set_option maxRecDepth 100000 in
set_option maxHeartbeats 2000000 in
theorem uc1 {Q : Exit → Act → World → Prop} {t0 t2 t3 t4 t5 t6 t7 t8 t9 t10 t11 t12 t13 t14 t15 t16 t17 t18 t19 t20 t21 t22 t23 t24 t25 t26 t27 t28 t29 t30 t31 t32 t33 t34 : Value} {W : World} {vb n c : Nat} {hV : Hd} {av : Option Addr}
    (hv : Cells6 W vb 0 hV (.slice av n c)) (hL : Lies W hV.na (texts hV.ns)) (hnl : hV.ns.length ≤ 1100000)
    (hp : ∀ p d v a w, Q (.panic p) (Act.put a d v) w → Q (.panic p) a w) (h : ∀ ws xb na nc v5 v6 v7 v8 v9 v10 v11 v12 v13 v14 v15, Below W.heap.size W ws → W.heap.size ≤ xb → Row ws xb [.int .i64 hV.k, .int .i64 hV.m, .int .i64 hV.e, .string hV.t, .slice none 0 0, .slice na hV.ns.length nc] → ws.ownsRow W.heap.size 9 1 (.slice na hV.ns.length nc) hV.ns.length (texts hV.ns) → blkOf na ≠ some xb → Q .normal { tmps := (t0 :: .pointer (some ⟨vb, 0, none⟩) :: t2 :: .pointer (some ⟨xb, 0, none⟩) :: t4 :: v5 :: v6 :: v7 :: v8 :: v9 :: v10 :: v11 :: v12 :: v13 :: v14 :: v15 :: t16 :: t17 :: t18 :: t19 :: t20 :: t21 :: t22 :: t23 :: t24 :: t25 :: t26 :: t27 :: t28 :: t29 :: t30 :: t31 :: t32 :: t33 :: t34 :: []).toArray, defers := [] } ws) :
    Code.wp Try.prog (Code.region 1 #[{ dst := some 5, op := Op.fieldAddr 28 (Operand.tmp 1) 0, type := 0, pos := "l13_patch.go:6", after := #[], guard := none }, { dst := some 6, op := Op.load 3 (Operand.tmp 5), type := 3, pos := "l13_patch.go:6", after := #[{ on := 0, ground := Ground.data }], guard := none }, { dst := some 7, op := Op.fieldAddr 28 (Operand.tmp 1) 1, type := 0, pos := "l13_patch.go:6", after := #[], guard := none }, { dst := some 8, op := Op.load 24 (Operand.tmp 7), type := 24, pos := "l13_patch.go:6", after := #[{ on := 2, ground := Ground.data }], guard := none }, { dst := some 9, op := Op.fieldAddr 28 (Operand.tmp 1) 2, type := 0, pos := "l13_patch.go:6", after := #[], guard := none }, { dst := some 10, op := Op.load 9 (Operand.tmp 9), type := 9, pos := "l13_patch.go:6", after := #[{ on := 4, ground := Ground.data }], guard := none }, { dst := some 11, op := Op.buildSlice 26 0 #[], type := 26, pos := "l13_patch.go:6", after := #[], guard := none }, { dst := some 12, op := Op.fieldAddr 28 (Operand.tmp 1) 4, type := 0, pos := "l13_patch.go:6", after := #[], guard := none }, { dst := some 13, op := Op.load 26 (Operand.tmp 12), type := 26, pos := "l13_patch.go:6", after := #[{ on := 7, ground := Ground.data }], guard := none }, { dst := some 14, op := Op.call { callee := Callee.builtin Builtin.append, args := #[Operand.tmp 11, Operand.tmp 13], argTypes := #[26, 26] }, type := 26, pos := "l13_patch.go:6", after := #[{ on := 6, ground := Ground.data }, { on := 8, ground := Ground.data }], guard := none }, { dst := some 15, op := Op.build 28 #[(0, Operand.tmp 6), (1, Operand.tmp 8), (2, Operand.tmp 10), (4, Operand.tmp 14)], type := 28, pos := "l13_patch.go:6", after := #[{ on := 1, ground := Ground.data }, { on := 3, ground := Ground.data }, { on := 5, ground := Ground.data }, { on := 9, ground := Ground.data }], guard := none }, { dst := some 3, op := Op.alloc 28, type := 0, pos := "l13_patch.go:6", after := #[], guard := none }, { dst := none, op := Op.store 28 (Operand.tmp 3) (Operand.tmp 15), type := 0, pos := "l13_patch.go:6", after := #[{ on := 11, ground := Ground.data }, { on := 10, ground := Ground.data }, { on := 9, ground := Ground.chain }, { on := 0, ground := Ground.phase }, { on := 1, ground := Ground.phase }, { on := 2, ground := Ground.phase }, { on := 3, ground := Ground.phase }, { on := 4, ground := Ground.phase }, { on := 5, ground := Ground.phase }, { on := 6, ground := Ground.phase }, { on := 7, ground := Ground.phase }, { on := 8, ground := Ground.phase }, { on := 9, ground := Ground.phase }, { on := 10, ground := Ground.phase }, { on := 11, ground := Ground.phase }], guard := none }] true) Q { tmps := (t0 :: .pointer (some ⟨vb, 0, none⟩) :: t2 :: t3 :: t4 :: t5 :: t6 :: t7 :: t8 :: t9 :: t10 :: t11 :: t12 :: t13 :: t14 :: t15 :: t16 :: t17 :: t18 :: t19 :: t20 :: t21 :: t22 :: t23 :: t24 :: t25 :: t26 :: t27 :: t28 :: t29 :: t30 :: t31 :: t32 :: t33 :: t34 :: []).toArray, defers := [] } W := by
  obtain ⟨i0, hi, hz0, hz1, hz2⟩ := info_parts textInfo
  have hvl := hv.lt
  have HS : Hid (∀ w', Below W.heap.size W w' → Cells6 w' vb 0 hV (.slice av n c)) := fun w' h => hv.grow h
  have HL : Hid (∀ w', Below W.heap.size W w' → Src w' hV.na hV.ns.length (texts hV.ns)) := fun w' h => (hL.grow h).src (sz := 1) (by rw [texts_length, Nat.mul_one]) (by omega)
  have hB0 := (Below.refl W.heap.size W).drew
  have hS0 := HS.out _ hB0
  clear hv hL
  refine wp_region_held_drew (S := fun w' => Cells6 w' vb 0 hV (.slice av n c)) (by kernel_rfl) hS0 (fun hHeld => ?_)
  generalize W.drew = Wd at *
  refine wpAnyH_take (i := 0) (v := .pointer (some ⟨vb, 0, none⟩)) rfl (by kernel_rfl) (by kernel_rfl) (by kernel_rfl) (fun _ _ _ h => hp _ _ _ _ _ h) (Or.inl ⟨by rfl, ?_⟩) (by assumption) ?_
  · intro w hSw
    (try dsimp only at hSw)
    go_simp
  (try simp only [Act.put, List.getElem_toArray, List.getElem_cons_zero, List.setIfInBounds_toArray, List.set_cons_zero, List.set_cons_succ])
  refine wpAnyH_take (i := 1) (v := .int .i64 hV.k) rfl (by kernel_rfl) (by kernel_rfl) (by kernel_rfl) (fun _ _ _ h => hp _ _ _ _ _ h) (Or.inl ⟨by rfl, ?_⟩) (by assumption) ?_
  · intro w hSw
    (try dsimp only at hSw)
    (obtain ⟨l0, l1, l2, l3, l4, l5⟩ := hSw; go_simp)
  (try simp only [Act.put, List.getElem_toArray, List.getElem_cons_zero, List.getElem_cons_succ, List.setIfInBounds_toArray, List.set_cons_zero, List.set_cons_succ])
  refine wpAnyH_take (i := 2) (v := .pointer (some ⟨vb, 1, none⟩)) rfl (by kernel_rfl) (by kernel_rfl) (by kernel_rfl) (fun _ _ _ h => hp _ _ _ _ _ h) (Or.inl ⟨by rfl, ?_⟩) (by assumption) ?_
  · intro w hSw
    (try dsimp only at hSw)
    go_simp
  (try simp only [Act.put, List.getElem_toArray, List.getElem_cons_zero, List.getElem_cons_succ, List.setIfInBounds_toArray, List.set_cons_zero, List.set_cons_succ])
  refine wpAnyH_take (i := 3) (v := .agg #[.int .i64 hV.m, .int .i64 hV.e]) rfl (by kernel_rfl) (by kernel_rfl) (by kernel_rfl) (fun _ _ _ h => hp _ _ _ _ _ h) (Or.inl ⟨by rfl, ?_⟩) (by assumption) ?_
  · intro w hSw
    (try dsimp only at hSw)
    (obtain ⟨l0, l1, l2, l3, l4, l5⟩ := hSw; go_simp)
  (try simp only [Act.put, List.getElem_toArray, List.getElem_cons_zero, List.getElem_cons_succ, List.setIfInBounds_toArray, List.set_cons_zero, List.set_cons_succ])
  refine wpAnyH_take (i := 4) (v := .pointer (some ⟨vb, 3, none⟩)) rfl (by kernel_rfl) (by kernel_rfl) (by kernel_rfl) (fun _ _ _ h => hp _ _ _ _ _ h) (Or.inl ⟨by rfl, ?_⟩) (by assumption) ?_
  · intro w hSw
    (try dsimp only at hSw)
    go_simp
  (try simp only [Act.put, List.getElem_toArray, List.getElem_cons_zero, List.getElem_cons_succ, List.setIfInBounds_toArray, List.set_cons_zero, List.set_cons_succ])
  refine wpAnyH_take (i := 5) (v := .string hV.t) rfl (by kernel_rfl) (by kernel_rfl) (by kernel_rfl) (fun _ _ _ h => hp _ _ _ _ _ h) (Or.inl ⟨by rfl, ?_⟩) (by assumption) ?_
  · intro w hSw
    (try dsimp only at hSw)
    (obtain ⟨l0, l1, l2, l3, l4, l5⟩ := hSw; go_simp)
  (try simp only [Act.put, List.getElem_toArray, List.getElem_cons_zero, List.getElem_cons_succ, List.setIfInBounds_toArray, List.set_cons_zero, List.set_cons_succ])
  refine wpAnyH_take (i := 7) (v := .pointer (some ⟨vb, 5, none⟩)) rfl (by kernel_rfl) (by kernel_rfl) (by kernel_rfl) (fun _ _ _ h => hp _ _ _ _ _ h) (Or.inl ⟨by rfl, ?_⟩) (by assumption) ?_
  · intro w hSw
    (try dsimp only at hSw)
    go_simp
  (try simp only [Act.put, List.getElem_toArray, List.getElem_cons_zero, List.getElem_cons_succ, List.setIfInBounds_toArray, List.set_cons_zero, List.set_cons_succ])
  refine wpAnyH_take (i := 8) (v := .slice hV.na hV.ns.length hV.nc) rfl (by kernel_rfl) (by kernel_rfl) (by kernel_rfl) (fun _ _ _ h => hp _ _ _ _ _ h) (Or.inl ⟨by rfl, ?_⟩) (by assumption) ?_
  · intro w hSw
    (try dsimp only at hSw)
    (obtain ⟨l0, l1, l2, l3, l4, l5⟩ := hSw; go_simp)
  (try simp only [Act.put, List.getElem_toArray, List.getElem_cons_zero, List.getElem_cons_succ, List.setIfInBounds_toArray, List.set_cons_zero, List.set_cons_succ])
  clear hS0 hHeld
  refine wpAnyH_ready (rs := [6, 11]) (by kernel_rfl) (by simp) ?_
  refine AllReadyH.cons rfl (fun K hK => ?_) (AllReadyH.cons rfl (fun K hK => ?_) AllReadyH.nil)
  · skip
    go_simp
    have hown := own_nothing Wd W.heap.size 1 9 hB0.size
    have hB1 := hB0.alloc hB0.size (.cells #[] 9)
    refine hK.out _ _ (HS.out _ hB1) (fun hHeld => ?_)
    clear hK K hHeld hB0
    have hB0 := hB1
    clear hB1
    obtain ⟨g0, hg0⟩ : ∃ g, Wd.heap.size = g := ⟨_, rfl⟩
    rw [hg0] at hown ⊢
    obtain ⟨vo, hvo⟩ : ∃ vo, vo = Value.slice (some ⟨g0, 0, none⟩) 0 0 := ⟨_, rfl⟩
    rw [← hvo] at hown ⊢
    clear hvo
    generalize Wd.alloc (.cells #[] 9) = W1 at *
    clear hg0
    refine wpAnyH_ready (rs := [9, 11]) (by kernel_rfl) (by simp) ?_
    refine AllReadyH.cons rfl (fun K hK => ?_) (AllReadyH.cons rfl (fun K hK => ?_) AllReadyH.nil)
    · skip
      refine wp_append_lie W1 _ _ 26 rfl W.heap.size 9 i0 _ 1 16 Try.underlying26 hi hz0 hz1 hz2 rfl (by decide) vo 0 [] rfl hown hV.na hV.ns.length hV.nc (texts hV.ns) rfl (by rw [texts_length, Nat.mul_one]) (HL.out _ hB0) texts_one (by unfold maxLen; omega) (by omega) hB0.size ?_
      intro v2 W2 hown2 hgr hob
      have hB1 := below_grown hB0 hown hgr hB0.size
      refine hK.out _ _ (HS.out _ hB1) (fun hHeld => ?_)
      clear hK K hB0 hown hgr hob
      have hB0 := hB1
      clear hB1
      have hown := hown2
      clear hown2
      (try simp only [Act.put, List.getElem_toArray, List.getElem_cons_zero, List.getElem_cons_succ, List.setIfInBounds_toArray, List.set_cons_zero, List.set_cons_succ])
      rw [List.nil_append, Nat.zero_add] at hown
      obtain ⟨na, nc, rfl, _, _, _⟩ := own_lies hown
      refine wpAnyH_take (i := 10) (v := .agg #[.int .i64 hV.k, .int .i64 hV.m, .int .i64 hV.e, .string hV.t, .slice none 0 0, .slice na hV.ns.length nc]) rfl (by kernel_rfl) (by kernel_rfl) (by kernel_rfl) (fun _ _ _ h => hp _ _ _ _ _ h) (Or.inl ⟨by rfl, ?_⟩) (by assumption) ?_
      · intro w hSw
        (try dsimp only at hSw)
        go_simp
      (try simp only [Act.put, List.getElem_toArray, List.getElem_cons_zero, List.getElem_cons_succ, List.setIfInBounds_toArray, List.set_cons_zero, List.set_cons_succ])
      clear hHeld
      refine wpAnyH_ready (rs := [11]) (by kernel_rfl) (by simp) ?_
      refine AllReadyH.cons rfl (fun K hK => ?_) AllReadyH.nil
      go_simp
      have hX : Row (W2.alloc (.cells #[.int .i64 0, .int .i64 0, .int .i64 0, .string ⟨#[]⟩, .slice none 0 0, .slice none 0 0] 28)) W2.heap.size [.int .i64 0, .int .i64 0, .int .i64 0, .string ⟨#[]⟩, .slice none 0 0, .slice none 0 0] := Row.new W2 _ _
      have hne : ∀ r, Value.ownBlock (.slice na hV.ns.length nc) = some r → r ≠ W2.heap.size := fun r hr => by have := (hown.lt r hr).2; omega
      have hown2 := own_keep hown ((Below.refl _ W2).alloc (Nat.le_refl _) (.cells #[.int .i64 0, .int .i64 0, .int .i64 0, .string ⟨#[]⟩, .slice none 0 0, .slice none 0 0] 28))
      clear hown
      have hown := hown2
      clear hown2
      have hxge : W.heap.size ≤ W2.heap.size := hB0.size
      have hB1 := hB0.alloc hB0.size (.cells #[.int .i64 0, .int .i64 0, .int .i64 0, .string ⟨#[]⟩, .slice none 0 0, .slice none 0 0] 28)
      refine hK.out _ _ (HS.out _ hB1) (fun hHeld => ?_)
      clear hK K hHeld hB0
      have hB0 := hB1
      clear hB1
      obtain ⟨xb, hxb⟩ : ∃ g, W2.heap.size = g := ⟨_, rfl⟩
      rw [hxb] at hX hxge hne ⊢
      generalize W2.alloc (.cells #[.int .i64 0, .int .i64 0, .int .i64 0, .string ⟨#[]⟩, .slice none 0 0, .slice none 0 0] 28) = W3 at *
      clear hxb
      refine wpAnyH_ready (rs := [12]) (by kernel_rfl) (by simp) ?_
      refine AllReadyH.cons rfl (fun K hK => ?_) AllReadyH.nil
      obtain ⟨e0, f0⟩ := hX 0 _ rfl
      obtain ⟨e1, f1⟩ := hX 1 _ rfl
      obtain ⟨e2, f2⟩ := hX 2 _ rfl
      obtain ⟨e3, f3⟩ := hX 3 _ rfl
      obtain ⟨e4, f4⟩ := hX 4 _ rfl
      obtain ⟨e5, f5⟩ := hX 5 _ rfl
      go_simp
      have hX6 := Row.put6 (v0 := .int .i64 hV.k) (v1 := .int .i64 hV.m) (v2 := .int .i64 hV.e) (v3 := .string hV.t) (v4 := .slice none 0 0) (v5 := .slice na hV.ns.length nc) hX
      have hB1 : Below W.heap.size W (put6 W3 xb 0 (.int .i64 hV.k) (.int .i64 hV.m) (.int .i64 hV.e) (.string hV.t) (.slice none 0 0) (.slice na hV.ns.length nc)) := put6_below hB0 hxge _ _ _ _ _ _
      have hown2 := own_put6 (j := xb) (o := 0) (v0 := .int .i64 hV.k) (v1 := .int .i64 hV.m) (v2 := .int .i64 hV.e) (v3 := .string hV.t) (v4 := .slice none 0 0) (v5 := .slice na hV.ns.length nc) hown (fun g hg => hne g hg)
      have hne2 : blkOf na ≠ some xb := fun e => hne xb (by rw [ownBlock_blkOf]; exact e) rfl
      refine hK.out _ _ (HS.out _ hB1) (fun _ => ?_)
      refine wpAnyH_done (by kernel_rfl) ?_ _
      exact h _ _ _ _ _ _ _ _ _ _ _ _ _ _ _ hB1 hxge hX6 hown2 hne2
    · skip
      go_simp
      have hX : Row (W1.alloc (.cells #[.int .i64 0, .int .i64 0, .int .i64 0, .string ⟨#[]⟩, .slice none 0 0, .slice none 0 0] 28)) W1.heap.size [.int .i64 0, .int .i64 0, .int .i64 0, .string ⟨#[]⟩, .slice none 0 0, .slice none 0 0] := Row.new W1 _ _
      have hne : ∀ r, Value.ownBlock vo = some r → r ≠ W1.heap.size := fun r hr => by have := (hown.lt r hr).2; omega
      have hown2 := own_keep hown ((Below.refl _ W1).alloc (Nat.le_refl _) (.cells #[.int .i64 0, .int .i64 0, .int .i64 0, .string ⟨#[]⟩, .slice none 0 0, .slice none 0 0] 28))
      clear hown
      have hown := hown2
      clear hown2
      have hxge : W.heap.size ≤ W1.heap.size := hB0.size
      have hB1 := hB0.alloc hB0.size (.cells #[.int .i64 0, .int .i64 0, .int .i64 0, .string ⟨#[]⟩, .slice none 0 0, .slice none 0 0] 28)
      refine hK.out _ _ (HS.out _ hB1) (fun hHeld => ?_)
      clear hK K hHeld hB0
      have hB0 := hB1
      clear hB1
      obtain ⟨xb, hxb⟩ : ∃ g, W1.heap.size = g := ⟨_, rfl⟩
      rw [hxb] at hX hxge hne ⊢
      generalize W1.alloc (.cells #[.int .i64 0, .int .i64 0, .int .i64 0, .string ⟨#[]⟩, .slice none 0 0, .slice none 0 0] 28) = W4 at *
      clear hxb
      refine wpAnyH_ready (rs := [9]) (by kernel_rfl) (by simp) ?_
      refine AllReadyH.cons rfl (fun K hK => ?_) AllReadyH.nil
      refine wp_append_lie W4 _ _ 26 rfl W.heap.size 9 i0 _ 1 16 Try.underlying26 hi hz0 hz1 hz2 rfl (by decide) vo 0 [] rfl hown hV.na hV.ns.length hV.nc (texts hV.ns) rfl (by rw [texts_length, Nat.mul_one]) (HL.out _ hB0) texts_one (by unfold maxLen; omega) (by omega) hB0.size ?_
      intro v2 W5 hown2 hgr hob
      have hB1 := below_grown hB0 hown hgr hB0.size
      have hX2 := row_grown hX hgr (fun e => hne _ e rfl)
      have hne2 : ∀ r, Value.ownBlock v2 = some r → r ≠ xb := fun r hr => by
        rcases hob with hob | hob
        · exact hne r (hob ▸ hr)
        · rw [hob] at hr; cases hr; have := hX.lt; omega
      refine hK.out _ _ (HS.out _ hB1) (fun hHeld => ?_)
      clear hK K hB0 hown hgr hob hX hne
      have hB0 := hB1
      clear hB1
      have hown := hown2
      clear hown2
      (try simp only [Act.put, List.getElem_toArray, List.getElem_cons_zero, List.getElem_cons_succ, List.setIfInBounds_toArray, List.set_cons_zero, List.set_cons_succ])
      have hX := hX2
      have hne := hne2
      clear hX2 hne2
      rw [List.nil_append, Nat.zero_add] at hown
      obtain ⟨na, nc, rfl, _, _, _⟩ := own_lies hown
      refine wpAnyH_take (i := 10) (v := .agg #[.int .i64 hV.k, .int .i64 hV.m, .int .i64 hV.e, .string hV.t, .slice none 0 0, .slice na hV.ns.length nc]) rfl (by kernel_rfl) (by kernel_rfl) (by kernel_rfl) (fun _ _ _ h => hp _ _ _ _ _ h) (Or.inl ⟨by rfl, ?_⟩) (by assumption) ?_
      · intro w hSw
        (try dsimp only at hSw)
        go_simp
      (try simp only [Act.put, List.getElem_toArray, List.getElem_cons_zero, List.getElem_cons_succ, List.setIfInBounds_toArray, List.set_cons_zero, List.set_cons_succ])
      clear hHeld
      refine wpAnyH_ready (rs := [12]) (by kernel_rfl) (by simp) ?_
      refine AllReadyH.cons rfl (fun K hK => ?_) AllReadyH.nil
      obtain ⟨e0, f0⟩ := hX 0 _ rfl
      obtain ⟨e1, f1⟩ := hX 1 _ rfl
      obtain ⟨e2, f2⟩ := hX 2 _ rfl
      obtain ⟨e3, f3⟩ := hX 3 _ rfl
      obtain ⟨e4, f4⟩ := hX 4 _ rfl
      obtain ⟨e5, f5⟩ := hX 5 _ rfl
      go_simp
      have hX6 := Row.put6 (v0 := .int .i64 hV.k) (v1 := .int .i64 hV.m) (v2 := .int .i64 hV.e) (v3 := .string hV.t) (v4 := .slice none 0 0) (v5 := .slice na hV.ns.length nc) hX
      have hB1 : Below W.heap.size W (put6 W5 xb 0 (.int .i64 hV.k) (.int .i64 hV.m) (.int .i64 hV.e) (.string hV.t) (.slice none 0 0) (.slice na hV.ns.length nc)) := put6_below hB0 hxge _ _ _ _ _ _
      have hown2 := own_put6 (j := xb) (o := 0) (v0 := .int .i64 hV.k) (v1 := .int .i64 hV.m) (v2 := .int .i64 hV.e) (v3 := .string hV.t) (v4 := .slice none 0 0) (v5 := .slice na hV.ns.length nc) hown (fun g hg => hne g hg)
      have hne2 : blkOf na ≠ some xb := fun e => hne xb (by rw [ownBlock_blkOf]; exact e) rfl
      refine hK.out _ _ (HS.out _ hB1) (fun _ => ?_)
      refine wpAnyH_done (by kernel_rfl) ?_ _
      exact h _ _ _ _ _ _ _ _ _ _ _ _ _ _ _ hB1 hxge hX6 hown2 hne2
  · skip
    go_simp
    have hX : Row (Wd.alloc (.cells #[.int .i64 0, .int .i64 0, .int .i64 0, .string ⟨#[]⟩, .slice none 0 0, .slice none 0 0] 28)) Wd.heap.size [.int .i64 0, .int .i64 0, .int .i64 0, .string ⟨#[]⟩, .slice none 0 0, .slice none 0 0] := Row.new Wd _ _
    have hxge : W.heap.size ≤ Wd.heap.size := hB0.size
    have hB1 := hB0.alloc hB0.size (.cells #[.int .i64 0, .int .i64 0, .int .i64 0, .string ⟨#[]⟩, .slice none 0 0, .slice none 0 0] 28)
    refine hK.out _ _ (HS.out _ hB1) (fun hHeld => ?_)
    clear hK K hHeld hB0
    have hB0 := hB1
    clear hB1
    obtain ⟨xb, hxb⟩ : ∃ g, Wd.heap.size = g := ⟨_, rfl⟩
    rw [hxb] at hX hxge ⊢
    generalize Wd.alloc (.cells #[.int .i64 0, .int .i64 0, .int .i64 0, .string ⟨#[]⟩, .slice none 0 0, .slice none 0 0] 28) = W6 at *
    clear hxb
    refine wpAnyH_ready (rs := [6]) (by kernel_rfl) (by simp) ?_
    refine AllReadyH.cons rfl (fun K hK => ?_) AllReadyH.nil
    go_simp
    have hown := own_nothing W6 W.heap.size 1 9 hB0.size
    have hne : ∀ r, Value.ownBlock (.slice (some ⟨W6.heap.size, 0, none⟩) 0 0) = some r → r ≠ xb := fun r hr => by simp [Value.ownBlock] at hr; have := hX.lt; omega
    have hX2 := hX.below ((Below.refl _ W6).alloc (Nat.le_refl _) (.cells #[] 9)) hX.lt
    clear hX
    have hX := hX2
    clear hX2
    have hB1 := hB0.alloc hB0.size (.cells #[] 9)
    refine hK.out _ _ (HS.out _ hB1) (fun hHeld => ?_)
    clear hK K hHeld hB0
    have hB0 := hB1
    clear hB1
    obtain ⟨g0, hg0⟩ : ∃ g, W6.heap.size = g := ⟨_, rfl⟩
    rw [hg0] at hown hne ⊢
    obtain ⟨vo, hvo⟩ : ∃ vo, vo = Value.slice (some ⟨g0, 0, none⟩) 0 0 := ⟨_, rfl⟩
    rw [← hvo] at hown hne ⊢
    clear hvo
    generalize W6.alloc (.cells #[] 9) = W7 at *
    clear hg0
    refine wpAnyH_ready (rs := [9]) (by kernel_rfl) (by simp) ?_
    refine AllReadyH.cons rfl (fun K hK => ?_) AllReadyH.nil
    refine wp_append_lie W7 _ _ 26 rfl W.heap.size 9 i0 _ 1 16 Try.underlying26 hi hz0 hz1 hz2 rfl (by decide) vo 0 [] rfl hown hV.na hV.ns.length hV.nc (texts hV.ns) rfl (by rw [texts_length, Nat.mul_one]) (HL.out _ hB0) texts_one (by unfold maxLen; omega) (by omega) hB0.size ?_
    intro v2 W8 hown2 hgr hob
    have hB1 := below_grown hB0 hown hgr hB0.size
    have hX2 := row_grown hX hgr (fun e => hne _ e rfl)
    have hne2 : ∀ r, Value.ownBlock v2 = some r → r ≠ xb := fun r hr => by
      rcases hob with hob | hob
      · exact hne r (hob ▸ hr)
      · rw [hob] at hr; cases hr; have := hX.lt; omega
    refine hK.out _ _ (HS.out _ hB1) (fun hHeld => ?_)
    clear hK K hB0 hown hgr hob hX hne
    have hB0 := hB1
    clear hB1
    have hown := hown2
    clear hown2
    (try simp only [Act.put, List.getElem_toArray, List.getElem_cons_zero, List.getElem_cons_succ, List.setIfInBounds_toArray, List.set_cons_zero, List.set_cons_succ])
    have hX := hX2
    have hne := hne2
    clear hX2 hne2
    rw [List.nil_append, Nat.zero_add] at hown
    obtain ⟨na, nc, rfl, _, _, _⟩ := own_lies hown
    refine wpAnyH_take (i := 10) (v := .agg #[.int .i64 hV.k, .int .i64 hV.m, .int .i64 hV.e, .string hV.t, .slice none 0 0, .slice na hV.ns.length nc]) rfl (by kernel_rfl) (by kernel_rfl) (by kernel_rfl) (fun _ _ _ h => hp _ _ _ _ _ h) (Or.inl ⟨by rfl, ?_⟩) (by assumption) ?_
    · intro w hSw
      (try dsimp only at hSw)
      go_simp
    (try simp only [Act.put, List.getElem_toArray, List.getElem_cons_zero, List.getElem_cons_succ, List.setIfInBounds_toArray, List.set_cons_zero, List.set_cons_succ])
    clear hHeld
    refine wpAnyH_ready (rs := [12]) (by kernel_rfl) (by simp) ?_
    refine AllReadyH.cons rfl (fun K hK => ?_) AllReadyH.nil
    obtain ⟨e0, f0⟩ := hX 0 _ rfl
    obtain ⟨e1, f1⟩ := hX 1 _ rfl
    obtain ⟨e2, f2⟩ := hX 2 _ rfl
    obtain ⟨e3, f3⟩ := hX 3 _ rfl
    obtain ⟨e4, f4⟩ := hX 4 _ rfl
    obtain ⟨e5, f5⟩ := hX 5 _ rfl
    go_simp
    have hX6 := Row.put6 (v0 := .int .i64 hV.k) (v1 := .int .i64 hV.m) (v2 := .int .i64 hV.e) (v3 := .string hV.t) (v4 := .slice none 0 0) (v5 := .slice na hV.ns.length nc) hX
    have hB1 : Below W.heap.size W (put6 W8 xb 0 (.int .i64 hV.k) (.int .i64 hV.m) (.int .i64 hV.e) (.string hV.t) (.slice none 0 0) (.slice na hV.ns.length nc)) := put6_below hB0 hxge _ _ _ _ _ _
    have hown2 := own_put6 (j := xb) (o := 0) (v0 := .int .i64 hV.k) (v1 := .int .i64 hV.m) (v2 := .int .i64 hV.e) (v3 := .string hV.t) (v4 := .slice none 0 0) (v5 := .slice na hV.ns.length nc) hown (fun g hg => hne g hg)
    have hne2 : blkOf na ≠ some xb := fun e => hne xb (by rw [ownBlock_blkOf]; exact e) rfl
    refine hK.out _ _ (HS.out _ hB1) (fun _ => ?_)
    refine wpAnyH_done (by kernel_rfl) ?_ _
    exact h _ _ _ _ _ _ _ _ _ _ _ _ _ _ _ hB1 hxge hX6 hown2 hne2
set_option maxRecDepth 100000 in
set_option maxHeartbeats 2000000 in
theorem uc5 {Q : Exit → Act → World → Prop} {t0 t2 t5 t6 t7 t8 t9 t10 t11 t12 t13 t14 t15 t16 t17 t18 t19 t20 t21 t22 t23 t24 t25 t26 t27 t28 t29 t30 t31 t32 t33 t34 : Value} {W : World} {N vb xb k n cv ib io B0 m cx ck : Nat} {ax ak : Option Addr} {FX FK : Vo} {hk : Hd}
    (H : CopyC N) (hFs : FK.size < N) (hFs2 : FK.size ≤ 1100000) (hFf : FK.few 1100000) (hFn : hk.ns.length ≤ 1100000) (hv : W.cell? ⟨vb, 4, none⟩ = some (.slice (some ⟨ib, io, none⟩) n cv)) (hkn : k < n) (hit : Cells6 W ib (io + k * 6) hk (.slice ak FK.len ck)) (hin : FK.In W ak) (hc : FK.len ≤ ck ∧ ck ≤ maxLen) (hh : hk.In W) (hvx : ¬ vb = xb) (hix : ¬ ib = xb) (hx : W.cell? ⟨xb, 4, none⟩ = some (.slice ax m cx)) (hxf : W.frozen? ⟨xb, 4, none⟩ = false) (hown : W.ownsRow B0 28 6 (.slice ax m cx) m FX.cells) (hbx : blkOf ax ≠ some xb) (hbv : blkOf ax ≠ some vb) (hbi : blkOf ax ≠ some ib) (hB0 : B0 ≤ W.heap.size) (hm : m ≤ 1100000)
    (hp : ∀ p d v a w, Q (.panic p) (Act.put a d v) w → Q (.panic p) a w) (h : ∀ ws v' h1 ag cg G v23 v24 v25 v26 v27 v28 v29 v30 v31 v33, W.grownBy ws (blkOf ax) → h1.same hk → G.alike FK → OwnS W.heap.size ws h1 ag cg G → ws.ownsRow B0 28 6 v' (m + 1) (FX.app (oneV h1 ag cg G)).cells → (v'.ownBlock = blkOf ax ∨ ∃ g, v'.ownBlock = some g ∧ W.heap.size ≤ g ∧ (oneV h1 ag cg G).Blk (fun x => x < g)) → Q .normal { tmps := (t0 :: .pointer (some ⟨vb, 0, none⟩) :: t2 :: .pointer (some ⟨xb, 0, none⟩) :: .int .i64 (k : Nat) :: t5 :: t6 :: t7 :: t8 :: t9 :: t10 :: t11 :: t12 :: t13 :: t14 :: t15 :: t16 :: t17 :: t18 :: t19 :: t20 :: t21 :: t22 :: v23 :: v24 :: v25 :: v26 :: v27 :: v28 :: v29 :: v30 :: v31 :: v' :: v33 :: t34 :: []).toArray, defers := [] } (ws.setCell ⟨xb, 4, none⟩ v')) :
    Code.wp Try.prog (Code.region 5 #[{ dst := some 23, op := Op.fieldAddr 28 (Operand.tmp 3) 3, type := 0, pos := "l13_patch.go:8", after := #[], guard := none }, { dst := some 24, op := Op.load 25 (Operand.tmp 23), type := 25, pos := "l13_patch.go:8", after := #[{ on := 0, ground := Ground.data }], guard := none }, { dst := some 25, op := Op.fieldAddr 28 (Operand.tmp 1) 3, type := 0, pos := "l13_patch.go:8", after := #[], guard := none }, { dst := some 26, op := Op.load 25 (Operand.tmp 25), type := 25, pos := "l13_patch.go:8", after := #[{ on := 2, ground := Ground.data }], guard := none }, { dst := some 27, op := Op.move (Operand.tmp 4), type := 3, pos := "l13_patch.go:8", after := #[], guard := none }, { dst := some 28, op := Op.indexAddr 25 (Operand.tmp 26) (Operand.tmp 27), type := 0, pos := "l13_patch.go:8", after := #[{ on := 3, ground := Ground.data }, { on := 4, ground := Ground.data }], guard := none }, { dst := some 29, op := Op.load 28 (Operand.tmp 28), type := 28, pos := "l13_patch.go:8", after := #[{ on := 5, ground := Ground.data }], guard := none }, { dst := some 30, op := Op.call { callee := Callee.value (Operand.func 30), args := #[Operand.tmp 29], argTypes := #[28] }, type := 28, pos := "l13_patch.go:8", after := #[{ on := 6, ground := Ground.data }], guard := none }, { dst := some 31, op := Op.buildSlice 25 1 #[(0, Operand.tmp 30)], type := 25, pos := "l13_patch.go:8", after := #[{ on := 7, ground := Ground.data }], guard := none }, { dst := some 32, op := Op.call { callee := Callee.builtin Builtin.append, args := #[Operand.tmp 24, Operand.tmp 31], argTypes := #[25, 25] }, type := 25, pos := "l13_patch.go:8", after := #[{ on := 1, ground := Ground.data }, { on := 8, ground := Ground.data }, { on := 7, ground := Ground.chain }], guard := none }, { dst := some 33, op := Op.fieldAddr 28 (Operand.tmp 3) 3, type := 0, pos := "l13_patch.go:8", after := #[{ on := 0, ground := Ground.phase }, { on := 1, ground := Ground.phase }, { on := 2, ground := Ground.phase }, { on := 3, ground := Ground.phase }, { on := 4, ground := Ground.phase }, { on := 5, ground := Ground.phase }, { on := 6, ground := Ground.phase }, { on := 7, ground := Ground.phase }, { on := 8, ground := Ground.phase }, { on := 9, ground := Ground.phase }], guard := none }, { dst := none, op := Op.store 25 (Operand.tmp 33) (Operand.tmp 32), type := 0, pos := "l13_patch.go:8", after := #[{ on := 10, ground := Ground.data }, { on := 9, ground := Ground.data }, { on := 9, ground := Ground.chain }, { on := 0, ground := Ground.phase }, { on := 1, ground := Ground.phase }, { on := 2, ground := Ground.phase }, { on := 3, ground := Ground.phase }, { on := 4, ground := Ground.phase }, { on := 5, ground := Ground.phase }, { on := 6, ground := Ground.phase }, { on := 7, ground := Ground.phase }, { on := 8, ground := Ground.phase }, { on := 9, ground := Ground.phase }], guard := none }] true) Q { tmps := (t0 :: .pointer (some ⟨vb, 0, none⟩) :: t2 :: .pointer (some ⟨xb, 0, none⟩) :: .int .i64 (k : Nat) :: t5 :: t6 :: t7 :: t8 :: t9 :: t10 :: t11 :: t12 :: t13 :: t14 :: t15 :: t16 :: t17 :: t18 :: t19 :: t20 :: t21 :: t22 :: t23 :: t24 :: t25 :: t26 :: t27 :: t28 :: t29 :: t30 :: t31 :: t32 :: t33 :: t34 :: []).toArray, defers := [] } W := by
  obtain ⟨i0, hi, hz0, hz1, hz2⟩ := info_parts valInfo
  have hvl := World.block_lt_of_cell? W _ hv
  have hxl := World.block_lt_of_cell? W _ hx
  have hil := hit.lt
  have HO : Hid (∀ w', Below W.heap.size W w' → (w'.cell? ⟨xb, 4, none⟩ = some (.slice ax m cx) ∧ w'.frozen? ⟨xb, 4, none⟩ = false)) := fun w' h => ⟨(h.cell (p := ⟨xb, 4, none⟩) hxl).trans hx, (h.frozen (p := ⟨xb, 4, none⟩) hxl).trans hxf⟩
  have HW : Hid (∀ w', Below W.heap.size W w' → w'.ownsRow B0 28 6 (.slice ax m cx) m FX.cells) := fun w' h => own_keep hown h
  have HS : Hid (∀ w' w'' : World, Below W.heap.size W w' → w'.grownBy w'' (blkOf ax) → (w''.cell? ⟨vb, 4, none⟩ = some (.slice (some ⟨ib, io, none⟩) n cv) ∧ Cells6 w'' ib (io + k * 6) hk (.slice ak FK.len ck))) := fun w' w'' h hg => ⟨hg.cell ((h.cell (p := ⟨vb, 4, none⟩) hvl).trans hv) (fun e => hbv e.symm), (hit.grow h).mono fun o' u hu => hg.cell hu (fun e => hbi e.symm)⟩
  have HI : Hid (∀ w', Below W.heap.size W w' → (FK.In w' ak ∧ hk.In w')) := fun w' h => ⟨hin.grow h, hh.grow h⟩
  have hgr0 : ∀ w' : World, w'.grownBy w' (blkOf ax) := fun w' => ⟨rfl, rfl, rfl, Nat.le_refl _, fun _ _ _ => rfl⟩
  have HG0 : Hid (∀ w' : World, w'.grownBy w' (blkOf ax)) := hgr0
  have hB := (Below.refl W.heap.size W).drew
  have hS0 := HS.out _ _ hB (hgr0 _)
  have hltk : (k : Int) < (n : Int) := by omega
  clear hv hx hxf hown hin hh hit hgr0
  refine wp_region_held_drew (S := fun w' => w'.cell? ⟨vb, 4, none⟩ = some (.slice (some ⟨ib, io, none⟩) n cv) ∧ Cells6 w' ib (io + k * 6) hk (.slice ak FK.len ck)) (by kernel_rfl) hS0 (fun hHeld => ?_)
  generalize W.drew = Wd at *
  refine wpAnyH_take (i := 0) (v := .pointer (some ⟨xb, 4, none⟩)) rfl (by kernel_rfl) (by kernel_rfl) (by kernel_rfl) (fun _ _ _ h => hp _ _ _ _ _ h) (Or.inl ⟨by rfl, ?_⟩) (by assumption) ?_
  · intro w hSw
    (try dsimp only at hSw)
    go_simp
  (try simp only [Act.put, List.getElem_toArray, List.getElem_cons_zero, List.setIfInBounds_toArray, List.set_cons_zero, List.set_cons_succ])
  refine wpAnyH_take (i := 2) (v := .pointer (some ⟨vb, 4, none⟩)) rfl (by kernel_rfl) (by kernel_rfl) (by kernel_rfl) (fun _ _ _ h => hp _ _ _ _ _ h) (Or.inl ⟨by rfl, ?_⟩) (by assumption) ?_
  · intro w hSw
    (try dsimp only at hSw)
    go_simp
  (try simp only [Act.put, List.getElem_toArray, List.getElem_cons_zero, List.getElem_cons_succ, List.setIfInBounds_toArray, List.set_cons_zero, List.set_cons_succ])
  refine wpAnyH_take (i := 3) (v := .slice (some ⟨ib, io, none⟩) n cv) rfl (by kernel_rfl) (by kernel_rfl) (by kernel_rfl) (fun _ _ _ h => hp _ _ _ _ _ h) (Or.inl ⟨by rfl, ?_⟩) (by assumption) ?_
  · intro w hSw
    (try dsimp only at hSw)
    (obtain ⟨hSv, _⟩ := hSw; go_simp)
  (try simp only [Act.put, List.getElem_toArray, List.getElem_cons_zero, List.getElem_cons_succ, List.setIfInBounds_toArray, List.set_cons_zero, List.set_cons_succ])
  refine wpAnyH_take (i := 4) (v := .int .i64 (k : Nat)) rfl (by kernel_rfl) (by kernel_rfl) (by kernel_rfl) (fun _ _ _ h => hp _ _ _ _ _ h) (Or.inl ⟨by rfl, ?_⟩) (by assumption) ?_
  · intro w hSw
    (try dsimp only at hSw)
    go_simp
  (try simp only [Act.put, List.getElem_toArray, List.getElem_cons_zero, List.getElem_cons_succ, List.setIfInBounds_toArray, List.set_cons_zero, List.set_cons_succ])
  refine wpAnyH_take (i := 5) (v := .pointer (some ⟨ib, io + k * 6, none⟩)) rfl (by kernel_rfl) (by kernel_rfl) (by kernel_rfl) (fun _ _ _ h => hp _ _ _ _ _ h) (Or.inl ⟨by rfl, ?_⟩) (by assumption) ?_
  · intro w hSw
    (try dsimp only at hSw)
    go_simp
  (try simp only [Act.put, List.getElem_toArray, List.getElem_cons_zero, List.getElem_cons_succ, List.setIfInBounds_toArray, List.set_cons_zero, List.set_cons_succ])
  refine wpAnyH_take (i := 6) (v := valV hk ak FK.len ck) rfl (by kernel_rfl) (by kernel_rfl) (by kernel_rfl) (fun _ _ _ h => hp _ _ _ _ _ h) (Or.inl ⟨by rfl, ?_⟩) (by assumption) ?_
  · intro w hSw
    (try dsimp only at hSw)
    (obtain ⟨_, l0, l1, l2, l3, l4, l5⟩ := hSw; go_simp)
  (try simp only [Act.put, List.getElem_toArray, List.getElem_cons_zero, List.getElem_cons_succ, List.setIfInBounds_toArray, List.set_cons_zero, List.set_cons_succ])
  clear hS0 hHeld
  refine wpAnyH_ready (rs := [1, 7]) (by kernel_rfl) (by simp) ?_
  refine AllReadyH.cons rfl (fun K hK => ?_) (AllReadyH.cons rfl (fun K hK => ?_) AllReadyH.nil)
  · skip
    obtain ⟨hcl, _⟩ := HO.out _ hB
    go_simp
    refine hK.out _ _ (HS.out _ _ hB (HG0.out _)) (fun _ => ?_)
    clear hK K hcl
    (try simp only [Act.put, List.getElem_toArray, List.getElem_cons_zero, List.getElem_cons_succ, List.setIfInBounds_toArray, List.set_cons_zero, List.set_cons_succ])
    refine wpAnyH_ready (rs := [7]) (by kernel_rfl) (by simp) ?_
    refine AllReadyH.cons rfl (fun K hK => ?_) AllReadyH.nil
    obtain ⟨q1, q2⟩ := HI.out _ hB
    have hH := H hk ak ck FK Wd hFs hFs2 hFf hFn q1 hc.1 hc.2 q2
    go_simp
    refine hH.mono ?_
    rintro r w1 ⟨⟨h1, ag, cg, G, rfl, hsm, hal, hval⟩, hb1⟩
    have hB1 := hB.trans (hb1.mono hB.size)
    have hval := hval.mono (B1 := W.heap.size) hB.size
    go_wp2_with fail
    refine hK.out _ _ (HS.out _ _ hB1 (HG0.out _)) (fun _ => ?_)
    clear hK K hH hB hb1 q1 q2
    have hB := hB1
    clear hB1
    refine wpAnyH_ready (rs := [8]) (by kernel_rfl) (by simp) ?_
    refine AllReadyH.cons rfl (fun K hK => ?_) AllReadyH.nil
    go_simp
    have hel : Own0 (w1.alloc (.cells #[.int .i64 h1.k, .int .i64 h1.m, .int .i64 h1.e, .string h1.t, .slice ag G.len cg, .slice h1.na h1.ns.length h1.nc] 28)) W.heap.size w1.heap.size (six h1 ag G.len cg) := Own0.new w1 W.heap.size [.int .i64 h1.k, .int .i64 h1.m, .int .i64 h1.e, .string h1.t, .slice ag G.len cg, .slice h1.na h1.ns.length h1.nc] 28 hB.size
    have hbW : Below w1.heap.size w1 (w1.alloc (.cells #[.int .i64 h1.k, .int .i64 h1.m, .int .i64 h1.e, .string h1.t, .slice ag G.len cg, .slice h1.na h1.ns.length h1.nc] 28)) := (Below.refl _ _).alloc (Nat.le_refl _) _
    have hsz : (w1.alloc (.cells #[.int .i64 h1.k, .int .i64 h1.m, .int .i64 h1.e, .string h1.t, .slice ag G.len cg, .slice h1.na h1.ns.length h1.nc] 28)).heap.size = w1.heap.size + 1 := by simp
    have hval2 := hval.below hbW
    have hbl2 := hval.blk
    have hB1 := hB.alloc hB.size (.cells #[.int .i64 h1.k, .int .i64 h1.m, .int .i64 h1.e, .string h1.t, .slice ag G.len cg, .slice h1.na h1.ns.length h1.nc] 28)
    refine hK.out _ _ (HS.out _ _ hB1 (HG0.out _)) (fun _ => ?_)
    clear hK K hbW hB
    have HSZ : Hid ((w1.alloc (.cells #[.int .i64 h1.k, .int .i64 h1.m, .int .i64 h1.e, .string h1.t, .slice ag G.len cg, .slice h1.na h1.ns.length h1.nc] 28)).heap.size = w1.heap.size + 1) := hsz
    have HBL : Hid ((oneV h1 ag cg G).Blk (fun x => W.heap.size ≤ x ∧ x < w1.heap.size)) := hbl2
    clear hsz hbl2
    obtain ⟨g1, hg1⟩ : ∃ g, w1.heap.size = g := ⟨_, rfl⟩
    rw [hg1] at hel HSZ HBL ⊢
    generalize w1.alloc (.cells #[.int .i64 h1.k, .int .i64 h1.m, .int .i64 h1.e, .string h1.t, .slice ag G.len cg, .slice h1.na h1.ns.length h1.nc] 28) = w2 at *
    clear hg1 hval
    have hB := hB1
    clear hB1
    refine wpAnyH_ready (rs := [9]) (by kernel_rfl) (by simp) ?_
    refine AllReadyH.cons rfl (fun K hK => ?_) AllReadyH.nil
    have hown := HW.out _ hB
    refine wp_append_lie w2 _ _ 25 rfl B0 28 i0 _ 6 88 Try.underlying25 hi hz0 hz1 hz2 rfl (by decide) (.slice ax m cx) m FX.cells rfl hown (some ⟨g1, 0, none⟩) 1 1 (six h1 ag G.len cg) rfl rfl (hel.src 1) six_one (by unfold maxLen; omega) (by omega) (by have := hB.size; omega) ?_
    intro v' w3 hown3 hgr hob
    rw [ownBlock_blkOf] at hgr hob
    have hgW := gr_trans (below_gr (r := blkOf ax) hB rfl) hgr
    have hlt3 : ∀ g, blkOf ax = some g → g < W.heap.size := fun g hg => ((HW.out W (Below.refl _ _)).lt g (by rw [ownBlock_blkOf]; exact hg)).2
    have hval3 := hval2.grown hgr hlt3
    have hS3 := HS.out _ _ hB hgr
    have hX3 : w3.cell? ⟨xb, 4, none⟩ = some (.slice ax m cx) ∧ w3.frozen? ⟨xb, 4, none⟩ = false := by
      have e := hgr.block xb (Nat.lt_of_lt_of_le hxl hB.size) (fun e => hbx e.symm)
      exact ⟨(World.cell?_of_block (a := ⟨xb, 4, none⟩) e).trans (HO.out _ hB).1, (World.frozen?_of_block (a := ⟨xb, 4, none⟩) e).trans (HO.out _ hB).2⟩
    have HC : Hid (w3.ownsRow B0 28 6 v' (m + 1) (FX.app (oneV h1 ag cg G)).cells) := by unfold Hid; rw [Vo.app_cells, Vo.cells_oneV]; exact hown3
    have HOB : Hid (v'.ownBlock = blkOf ax ∨ ∃ g, v'.ownBlock = some g ∧ W.heap.size ≤ g ∧ (oneV h1 ag cg G).Blk (fun x => x < g)) := by
      rcases hob with hob | hob
      · exact .inl hob
      · exact .inr ⟨_, hob, hB.size, HBL.out.mono (fun x hx => by have := HSZ.out; omega)⟩
    refine hK.out _ _ hS3 (fun hHeld => ?_)
    clear hK K hown3 hgr hob hval2 hown hel hB
    (try simp only [Act.put, List.getElem_toArray, List.getElem_cons_zero, List.getElem_cons_succ, List.setIfInBounds_toArray, List.set_cons_zero, List.set_cons_succ])
    refine wpAnyH_take (i := 10) (v := .pointer (some ⟨xb, 4, none⟩)) rfl (by kernel_rfl) (by kernel_rfl) (by kernel_rfl) (fun _ _ _ h => hp _ _ _ _ _ h) (Or.inl ⟨by rfl, ?_⟩) (by assumption) ?_
    · intro w hSw
      (try dsimp only at hSw)
      go_simp
    (try simp only [Act.put, List.getElem_toArray, List.getElem_cons_zero, List.getElem_cons_succ, List.setIfInBounds_toArray, List.set_cons_zero, List.set_cons_succ])
    obtain ⟨g9, c9, rfl, _, _⟩ := HC.out.form (by omega)
    obtain ⟨hc3, hf3⟩ := hX3
    refine wpAnyH_ready (rs := [11]) (by kernel_rfl) (by simp) ?_
    refine AllReadyH.cons rfl (fun K hK => ?_) AllReadyH.nil
    go_simp
    refine hK.out _ _ ⟨?_, ?_⟩ (fun _ => ?_)
    · exact (World.cell?_setCell_other _ _ _ _ (fun e => hvx (by simpa using congrArg Addr.block e.symm))).trans hS3.1
    · exact hS3.2.setOther hix _ _
    · refine wpAnyH_done (by kernel_rfl) ?_ _
      exact h _ _ _ _ _ _ _ _ _ _ _ _ _ _ _ _ hgW hsm hal hval3 HC.out HOB.out
  · skip
    obtain ⟨q1, q2⟩ := HI.out _ hB
    have hH := H hk ak ck FK Wd hFs hFs2 hFf hFn q1 hc.1 hc.2 q2
    go_simp
    refine hH.mono ?_
    rintro r w1 ⟨⟨h1, ag, cg, G, rfl, hsm, hal, hval⟩, hb1⟩
    have hB1 := hB.trans (hb1.mono hB.size)
    have hval := hval.mono (B1 := W.heap.size) hB.size
    go_wp2_with fail
    refine hK.out _ _ (HS.out _ _ hB1 (HG0.out _)) (fun _ => ?_)
    clear hK K hH hB hb1 q1 q2
    have hB := hB1
    clear hB1
    refine wpAnyH_ready (rs := [1, 8]) (by kernel_rfl) (by simp) ?_
    refine AllReadyH.cons rfl (fun K hK => ?_) (AllReadyH.cons rfl (fun K hK => ?_) AllReadyH.nil)
    · skip
      obtain ⟨hcl, _⟩ := HO.out _ hB
      go_simp
      refine hK.out _ _ (HS.out _ _ hB (HG0.out _)) (fun _ => ?_)
      clear hK K hcl
      (try simp only [Act.put, List.getElem_toArray, List.getElem_cons_zero, List.getElem_cons_succ, List.setIfInBounds_toArray, List.set_cons_zero, List.set_cons_succ])
      refine wpAnyH_ready (rs := [8]) (by kernel_rfl) (by simp) ?_
      refine AllReadyH.cons rfl (fun K hK => ?_) AllReadyH.nil
      go_simp
      have hel : Own0 (w1.alloc (.cells #[.int .i64 h1.k, .int .i64 h1.m, .int .i64 h1.e, .string h1.t, .slice ag G.len cg, .slice h1.na h1.ns.length h1.nc] 28)) W.heap.size w1.heap.size (six h1 ag G.len cg) := Own0.new w1 W.heap.size [.int .i64 h1.k, .int .i64 h1.m, .int .i64 h1.e, .string h1.t, .slice ag G.len cg, .slice h1.na h1.ns.length h1.nc] 28 hB.size
      have hbW : Below w1.heap.size w1 (w1.alloc (.cells #[.int .i64 h1.k, .int .i64 h1.m, .int .i64 h1.e, .string h1.t, .slice ag G.len cg, .slice h1.na h1.ns.length h1.nc] 28)) := (Below.refl _ _).alloc (Nat.le_refl _) _
      have hsz : (w1.alloc (.cells #[.int .i64 h1.k, .int .i64 h1.m, .int .i64 h1.e, .string h1.t, .slice ag G.len cg, .slice h1.na h1.ns.length h1.nc] 28)).heap.size = w1.heap.size + 1 := by simp
      have hval2 := hval.below hbW
      have hbl2 := hval.blk
      have hB1 := hB.alloc hB.size (.cells #[.int .i64 h1.k, .int .i64 h1.m, .int .i64 h1.e, .string h1.t, .slice ag G.len cg, .slice h1.na h1.ns.length h1.nc] 28)
      refine hK.out _ _ (HS.out _ _ hB1 (HG0.out _)) (fun _ => ?_)
      clear hK K hbW hB
      have HSZ : Hid ((w1.alloc (.cells #[.int .i64 h1.k, .int .i64 h1.m, .int .i64 h1.e, .string h1.t, .slice ag G.len cg, .slice h1.na h1.ns.length h1.nc] 28)).heap.size = w1.heap.size + 1) := hsz
      have HBL : Hid ((oneV h1 ag cg G).Blk (fun x => W.heap.size ≤ x ∧ x < w1.heap.size)) := hbl2
      clear hsz hbl2
      obtain ⟨g1, hg1⟩ : ∃ g, w1.heap.size = g := ⟨_, rfl⟩
      rw [hg1] at hel HSZ HBL ⊢
      generalize w1.alloc (.cells #[.int .i64 h1.k, .int .i64 h1.m, .int .i64 h1.e, .string h1.t, .slice ag G.len cg, .slice h1.na h1.ns.length h1.nc] 28) = w2 at *
      clear hg1 hval
      have hB := hB1
      clear hB1
      refine wpAnyH_ready (rs := [9]) (by kernel_rfl) (by simp) ?_
      refine AllReadyH.cons rfl (fun K hK => ?_) AllReadyH.nil
      have hown := HW.out _ hB
      refine wp_append_lie w2 _ _ 25 rfl B0 28 i0 _ 6 88 Try.underlying25 hi hz0 hz1 hz2 rfl (by decide) (.slice ax m cx) m FX.cells rfl hown (some ⟨g1, 0, none⟩) 1 1 (six h1 ag G.len cg) rfl rfl (hel.src 1) six_one (by unfold maxLen; omega) (by omega) (by have := hB.size; omega) ?_
      intro v' w3 hown3 hgr hob
      rw [ownBlock_blkOf] at hgr hob
      have hgW := gr_trans (below_gr (r := blkOf ax) hB rfl) hgr
      have hlt3 : ∀ g, blkOf ax = some g → g < W.heap.size := fun g hg => ((HW.out W (Below.refl _ _)).lt g (by rw [ownBlock_blkOf]; exact hg)).2
      have hval3 := hval2.grown hgr hlt3
      have hS3 := HS.out _ _ hB hgr
      have hX3 : w3.cell? ⟨xb, 4, none⟩ = some (.slice ax m cx) ∧ w3.frozen? ⟨xb, 4, none⟩ = false := by
        have e := hgr.block xb (Nat.lt_of_lt_of_le hxl hB.size) (fun e => hbx e.symm)
        exact ⟨(World.cell?_of_block (a := ⟨xb, 4, none⟩) e).trans (HO.out _ hB).1, (World.frozen?_of_block (a := ⟨xb, 4, none⟩) e).trans (HO.out _ hB).2⟩
      have HC : Hid (w3.ownsRow B0 28 6 v' (m + 1) (FX.app (oneV h1 ag cg G)).cells) := by unfold Hid; rw [Vo.app_cells, Vo.cells_oneV]; exact hown3
      have HOB : Hid (v'.ownBlock = blkOf ax ∨ ∃ g, v'.ownBlock = some g ∧ W.heap.size ≤ g ∧ (oneV h1 ag cg G).Blk (fun x => x < g)) := by
        rcases hob with hob | hob
        · exact .inl hob
        · exact .inr ⟨_, hob, hB.size, HBL.out.mono (fun x hx => by have := HSZ.out; omega)⟩
      refine hK.out _ _ hS3 (fun hHeld => ?_)
      clear hK K hown3 hgr hob hval2 hown hel hB
      (try simp only [Act.put, List.getElem_toArray, List.getElem_cons_zero, List.getElem_cons_succ, List.setIfInBounds_toArray, List.set_cons_zero, List.set_cons_succ])
      refine wpAnyH_take (i := 10) (v := .pointer (some ⟨xb, 4, none⟩)) rfl (by kernel_rfl) (by kernel_rfl) (by kernel_rfl) (fun _ _ _ h => hp _ _ _ _ _ h) (Or.inl ⟨by rfl, ?_⟩) (by assumption) ?_
      · intro w hSw
        (try dsimp only at hSw)
        go_simp
      (try simp only [Act.put, List.getElem_toArray, List.getElem_cons_zero, List.getElem_cons_succ, List.setIfInBounds_toArray, List.set_cons_zero, List.set_cons_succ])
      obtain ⟨g9, c9, rfl, _, _⟩ := HC.out.form (by omega)
      obtain ⟨hc3, hf3⟩ := hX3
      refine wpAnyH_ready (rs := [11]) (by kernel_rfl) (by simp) ?_
      refine AllReadyH.cons rfl (fun K hK => ?_) AllReadyH.nil
      go_simp
      refine hK.out _ _ ⟨?_, ?_⟩ (fun _ => ?_)
      · exact (World.cell?_setCell_other _ _ _ _ (fun e => hvx (by simpa using congrArg Addr.block e.symm))).trans hS3.1
      · exact hS3.2.setOther hix _ _
      · refine wpAnyH_done (by kernel_rfl) ?_ _
        exact h _ _ _ _ _ _ _ _ _ _ _ _ _ _ _ _ hgW hsm hal hval3 HC.out HOB.out
    · skip
      go_simp
      have hel : Own0 (w1.alloc (.cells #[.int .i64 h1.k, .int .i64 h1.m, .int .i64 h1.e, .string h1.t, .slice ag G.len cg, .slice h1.na h1.ns.length h1.nc] 28)) W.heap.size w1.heap.size (six h1 ag G.len cg) := Own0.new w1 W.heap.size [.int .i64 h1.k, .int .i64 h1.m, .int .i64 h1.e, .string h1.t, .slice ag G.len cg, .slice h1.na h1.ns.length h1.nc] 28 hB.size
      have hbW : Below w1.heap.size w1 (w1.alloc (.cells #[.int .i64 h1.k, .int .i64 h1.m, .int .i64 h1.e, .string h1.t, .slice ag G.len cg, .slice h1.na h1.ns.length h1.nc] 28)) := (Below.refl _ _).alloc (Nat.le_refl _) _
      have hsz : (w1.alloc (.cells #[.int .i64 h1.k, .int .i64 h1.m, .int .i64 h1.e, .string h1.t, .slice ag G.len cg, .slice h1.na h1.ns.length h1.nc] 28)).heap.size = w1.heap.size + 1 := by simp
      have hval2 := hval.below hbW
      have hbl2 := hval.blk
      have hB1 := hB.alloc hB.size (.cells #[.int .i64 h1.k, .int .i64 h1.m, .int .i64 h1.e, .string h1.t, .slice ag G.len cg, .slice h1.na h1.ns.length h1.nc] 28)
      refine hK.out _ _ (HS.out _ _ hB1 (HG0.out _)) (fun _ => ?_)
      clear hK K hbW hB
      have HSZ : Hid ((w1.alloc (.cells #[.int .i64 h1.k, .int .i64 h1.m, .int .i64 h1.e, .string h1.t, .slice ag G.len cg, .slice h1.na h1.ns.length h1.nc] 28)).heap.size = w1.heap.size + 1) := hsz
      have HBL : Hid ((oneV h1 ag cg G).Blk (fun x => W.heap.size ≤ x ∧ x < w1.heap.size)) := hbl2
      clear hsz hbl2
      obtain ⟨g1, hg1⟩ : ∃ g, w1.heap.size = g := ⟨_, rfl⟩
      rw [hg1] at hel HSZ HBL ⊢
      generalize w1.alloc (.cells #[.int .i64 h1.k, .int .i64 h1.m, .int .i64 h1.e, .string h1.t, .slice ag G.len cg, .slice h1.na h1.ns.length h1.nc] 28) = w2 at *
      clear hg1 hval
      have hB := hB1
      clear hB1
      refine wpAnyH_ready (rs := [1]) (by kernel_rfl) (by simp) ?_
      refine AllReadyH.cons rfl (fun K hK => ?_) AllReadyH.nil
      obtain ⟨hcl, _⟩ := HO.out _ hB
      go_simp
      refine hK.out _ _ (HS.out _ _ hB (HG0.out _)) (fun _ => ?_)
      clear hK K hcl
      (try simp only [Act.put, List.getElem_toArray, List.getElem_cons_zero, List.getElem_cons_succ, List.setIfInBounds_toArray, List.set_cons_zero, List.set_cons_succ])
      refine wpAnyH_ready (rs := [9]) (by kernel_rfl) (by simp) ?_
      refine AllReadyH.cons rfl (fun K hK => ?_) AllReadyH.nil
      have hown := HW.out _ hB
      refine wp_append_lie w2 _ _ 25 rfl B0 28 i0 _ 6 88 Try.underlying25 hi hz0 hz1 hz2 rfl (by decide) (.slice ax m cx) m FX.cells rfl hown (some ⟨g1, 0, none⟩) 1 1 (six h1 ag G.len cg) rfl rfl (hel.src 1) six_one (by unfold maxLen; omega) (by omega) (by have := hB.size; omega) ?_
      intro v' w3 hown3 hgr hob
      rw [ownBlock_blkOf] at hgr hob
      have hgW := gr_trans (below_gr (r := blkOf ax) hB rfl) hgr
      have hlt3 : ∀ g, blkOf ax = some g → g < W.heap.size := fun g hg => ((HW.out W (Below.refl _ _)).lt g (by rw [ownBlock_blkOf]; exact hg)).2
      have hval3 := hval2.grown hgr hlt3
      have hS3 := HS.out _ _ hB hgr
      have hX3 : w3.cell? ⟨xb, 4, none⟩ = some (.slice ax m cx) ∧ w3.frozen? ⟨xb, 4, none⟩ = false := by
        have e := hgr.block xb (Nat.lt_of_lt_of_le hxl hB.size) (fun e => hbx e.symm)
        exact ⟨(World.cell?_of_block (a := ⟨xb, 4, none⟩) e).trans (HO.out _ hB).1, (World.frozen?_of_block (a := ⟨xb, 4, none⟩) e).trans (HO.out _ hB).2⟩
      have HC : Hid (w3.ownsRow B0 28 6 v' (m + 1) (FX.app (oneV h1 ag cg G)).cells) := by unfold Hid; rw [Vo.app_cells, Vo.cells_oneV]; exact hown3
      have HOB : Hid (v'.ownBlock = blkOf ax ∨ ∃ g, v'.ownBlock = some g ∧ W.heap.size ≤ g ∧ (oneV h1 ag cg G).Blk (fun x => x < g)) := by
        rcases hob with hob | hob
        · exact .inl hob
        · exact .inr ⟨_, hob, hB.size, HBL.out.mono (fun x hx => by have := HSZ.out; omega)⟩
      refine hK.out _ _ hS3 (fun hHeld => ?_)
      clear hK K hown3 hgr hob hval2 hown hel hB
      (try simp only [Act.put, List.getElem_toArray, List.getElem_cons_zero, List.getElem_cons_succ, List.setIfInBounds_toArray, List.set_cons_zero, List.set_cons_succ])
      refine wpAnyH_take (i := 10) (v := .pointer (some ⟨xb, 4, none⟩)) rfl (by kernel_rfl) (by kernel_rfl) (by kernel_rfl) (fun _ _ _ h => hp _ _ _ _ _ h) (Or.inl ⟨by rfl, ?_⟩) (by assumption) ?_
      · intro w hSw
        (try dsimp only at hSw)
        go_simp
      (try simp only [Act.put, List.getElem_toArray, List.getElem_cons_zero, List.getElem_cons_succ, List.setIfInBounds_toArray, List.set_cons_zero, List.set_cons_succ])
      obtain ⟨g9, c9, rfl, _, _⟩ := HC.out.form (by omega)
      obtain ⟨hc3, hf3⟩ := hX3
      refine wpAnyH_ready (rs := [11]) (by kernel_rfl) (by simp) ?_
      refine AllReadyH.cons rfl (fun K hK => ?_) AllReadyH.nil
      go_simp
      refine hK.out _ _ ⟨?_, ?_⟩ (fun _ => ?_)
      · exact (World.cell?_setCell_other _ _ _ _ (fun e => hvx (by simpa using congrArg Addr.block e.symm))).trans hS3.1
      · exact hS3.2.setOther hix _ _
      · refine wpAnyH_done (by kernel_rfl) ?_ _
        exact h _ _ _ _ _ _ _ _ _ _ _ _ _ _ _ _ hgW hsm hal hval3 HC.out HOB.out
end Go.Proofs.Ytalncebnahlmdaa
/- Drawn values: l14AnyValue, and the draws of one value. -/
namespace Go.Proofs.Ytalncebnahlmdaa
open Go.RowKit
attribute [local go_sem] cell_alloc_is frozen_alloc_is
/-- any drawn value: it lies there, in new cells that are not frozen, and is small -/
def AnyS (B0 M : Nat) (w : World) (h : Hd) (a : Option Addr) (c : Nat) (F : Vo) : Prop :=
  ((oneV h a c F).Kin w ∧ (oneV h a c F).Cl w) ∧ (oneV h a c F).Blk (fun x => B0 ≤ x ∧ x < w.heap.size) ∧ (F.size ≤ M ∧ F.wt ≤ 60 * M ∧ fw h F) ∧ h.ns.length ≤ 4 ∧ h.t.size ≤ 7 ∧ ∀ s ∈ h.ns, s.size ≤ 10
theorem ValS.any {B0 L M : Nat} {w : World} {h : Hd} {a : Option Addr} {c : Nat} {F : Vo} (x : ValS B0 L M w h a c F) (hL : L ≤ 4) : AnyS B0 M w h a c F := by
  have h1 := x.one
  have h2 := x.oneCl
  have h3 := x.blk
  obtain ⟨⟨⟨l1, l2, l3, l4⟩, l5, l6, l7⟩, _⟩ := x
  exact ⟨⟨h1, h2⟩, h3, ⟨l2, by omega, l4⟩, by omega, l6, l7⟩
theorem AnyS.otr {B0 M b : Nat} {r : Option Nat} {W w' : World} {h : Hd} {a : Option Addr} {c : Nat} {F : Vo} (x : AnyS B0 M W h a c F) (k : Otr b r W w') (hb : b < B0) (hr : ∀ g, r = some g → g < B0) : AnyS B0 M w' h a c F := by
  obtain ⟨⟨h1, h2⟩, h3, h4⟩ := x
  have hB : (oneV h a c F).Blk (fun x => ¬ x = b ∧ some x ≠ r) := h3.mono fun x hx => ⟨by omega, fun e => by have := hr x e.symm; omega⟩
  exact ⟨⟨k.kin hB h1, k.cl hB h2⟩, h3.mono fun x hx => ⟨hx.1, Nat.lt_of_lt_of_le hx.2 k.1⟩, h4⟩
theorem AnyS.below {B0 M : Nat} {W w' : World} {h : Hd} {a : Option Addr} {c : Nat} {F : Vo} (x : AnyS B0 M W h a c F) (k : Below W.heap.size W w') : AnyS B0 M w' h a c F := by
  obtain ⟨⟨h1, h2⟩, h3, h4⟩ := x
  exact ⟨⟨Vo.kin_grow k h1, h2.below k⟩, h3.mono fun x hx => ⟨hx.1, Nat.lt_of_lt_of_le hx.2 k.size⟩, h4⟩
theorem AnyS.mono {B0 B1 M M' : Nat} {W : World} {h : Hd} {a : Option Addr} {c : Nat} {F : Vo} (x : AnyS B0 M W h a c F) (hB : B1 ≤ B0) (hM : M ≤ M') : AnyS B1 M' W h a c F := by
  obtain ⟨h1, h3, ⟨l1, l2, l3⟩, h4⟩ := x
  exact ⟨h1, h3.mono fun x hx => ⟨by omega, hx.2⟩, ⟨by omega, by omega, l3⟩, h4⟩
/-- another kind, number, text -/
theorem AnyS.head {B0 M : Nat} {w : World} {h : Hd} {a : Option Addr} {c : Nat} {F : Vo} (x : AnyS B0 M w h a c F) (k m e : Int) (t : ByteArray) (ht : t.size ≤ 7) (hk6 : k = h.k ∨ ¬ k = 6) : AnyS B0 M w ⟨k, m, e, t, h.na, h.nc, h.ns⟩ a c F := by
  obtain ⟨⟨⟨k1, k2, k3, k4⟩, h2⟩, h3, ⟨h4a, h4b, h4c, h4d, h4e⟩, h5, h6, h7⟩ := x
  have h4 : F.size ≤ M ∧ F.wt ≤ 60 * M ∧ fw ⟨k, m, e, t, h.na, h.nc, h.ns⟩ F := ⟨h4a, h4b, h4c, fun e => h4d (by rcases hk6 with hk6 | hk6; (exact hk6 ▸ e); (exact absurd e hk6)), h4e⟩
  exact ⟨⟨⟨k1, k2, ⟨k3.1, k3.2.1, by show t.size ≤ maxLen; unfold maxLen; omega⟩, k4⟩, h2⟩, h3, h4, h5, ht, h7⟩
theorem own_ne {w : World} {B B' n n' s s' : Nat} {e e' : TypeId} {v v' : Value} {xs xs' : List Value} (h : w.ownsRow B e s v n xs) (h' : w.ownsRow B' e' s' v' n' xs') (hne : e ≠ e') {g : Nat} (hg : v.ownBlock = some g) : v'.ownBlock ≠ some g := by
  intro hg'
  rcases h.2 with ⟨rfl, _⟩ | ⟨g1, _, _, rfl, _, h1, _⟩
  · cases hg
  · rcases h'.2 with ⟨rfl, _⟩ | ⟨g2, _, _, rfl, _, h2, _⟩
    · cases hg'
    · cases hg; cases hg'
      rw [h1] at h2
      cases h2
      exact hne rfl
theorem ValS.name {B0 L M b vb : Nat} {w ws : World} {h : Hd} {a na : Option Addr} {c nc : Nat} {F : Vo} {s : ByteArray} (hv : ValS B0 L M w h a c F) (hbB : b < B0) (hF : (oneV h a c F).Blk (fun x => x < vb)) (hob : blkOf na = blkOf h.na ∨ ∃ g, blkOf na = some g ∧ vb < g) (hnv : ∀ x, blkOf h.na = some x → ¬ x = vb) (hL : L ≤ 3) (hs : s.size ≤ 10)
    (hO : Otr b (blkOf h.na) w ws) (hown : ws.ownsRow B0 9 1 (.slice na (h.ns.length + 1) nc) (h.ns.length + 1) (texts (h.ns ++ [s]))) :
    AnyS B0 M ws ⟨h.k, h.m, h.e, h.t, na, nc, h.ns ++ [s]⟩ a c F ∧ (oneV ⟨h.k, h.m, h.e, h.t, na, nc, h.ns ++ [s]⟩ a c F).Blk (fun x => ¬ x = vb) := by
  obtain ⟨⟨⟨l1, l2, l3, l4⟩, l5, l6, l7⟩, h6, h1, hk, hB⟩ := hv
  have h6' : ws.ownsRow B0 28 6 (.slice a F.len c) F.len F.cells := hO.own h6 hbB (fun g hg => by rw [← ownBlock_blkOf (n := h.ns.length) (c := h.nc)]; exact fun e => own_ne h6 h1 (by decide) hg e.symm)
  have hb4 : F.Blk (fun x => ¬ x = b ∧ some x ≠ blkOf h.na) := hB.mono fun x hx => ⟨by omega, hx.2.2⟩
  have hs7 : ∀ x ∈ h.ns ++ [s], x.size ≤ 10 := fun x hx => by
    rcases List.mem_append.1 hx with hx | hx
    · exact l7 x hx
    · simp at hx; subst hx; exact hs
  have hlen : (h.ns ++ [s]).length = h.ns.length + 1 := by simp
  have k0 := hO.kin hb4 hk.1
  have c0 := hO.cl hb4 hk.2
  obtain ⟨a', c', e6, hl6, hc6, h06⟩ := own_lies h6'
  cases e6
  have hone : (oneV ⟨h.k, h.m, h.e, h.t, na, nc, h.ns ++ [s]⟩ a c F).Kin ws := Vo.kin_one.2 ⟨hl6.in k0, hc6, hin_of (h := ⟨h.k, h.m, h.e, h.t, na, nc, h.ns ++ [s]⟩) (by rw [show (Hd.mk h.k h.m h.e h.t na nc (h.ns ++ [s])).ns.length = h.ns.length + 1 from hlen]; exact hown) l6 hs7⟩
  have hcl : (oneV ⟨h.k, h.m, h.e, h.t, na, nc, h.ns ++ [s]⟩ a c F).Cl ws := ⟨own_pl h6', c0, trivial⟩
  have hblk : (oneV ⟨h.k, h.m, h.e, h.t, na, nc, h.ns ++ [s]⟩ a c F).Blk (fun x => B0 ≤ x ∧ x < ws.heap.size) := by
    refine ⟨?_, ?_, hB.mono (fun x hx => ⟨hx.1.1, Nat.lt_of_lt_of_le hx.1.2 hO.1⟩), trivial⟩
    · obtain ⟨a2, c2, e2, _, _, h0⟩ := own_lies hown
      cases e2
      rcases h0 with h0 | ⟨x, e1, e2, e3⟩
      · omega
      · exact .inr ⟨x, 0, e1, e3, (hown.lt x e2).2⟩
    · rcases h06 with h0 | ⟨x, e1, e2, e3⟩
      · left
        cases F with
        | nil => rfl
        | cons h0' a0 c0 k0 n0 => exact absurd h0 (Nat.succ_ne_zero _)
      · exact .inr ⟨x, 0, e1, e3, (h6'.lt x e2).2⟩
  refine ⟨⟨⟨hone, hcl⟩, hblk, ⟨l2, by omega, ⟨l4.1, fun e => (by show F.len ≤ (h.ns ++ [s]).length; rw [hlen]; have := l4.2.1 e; omega), l4.2.2⟩⟩, by show (h.ns ++ [s]).length ≤ 4; rw [hlen]; omega, l6, hs7⟩, ?_⟩
  obtain ⟨f1, f2, f3, f4⟩ := hF
  refine ⟨?_, ?_, f3.mono fun x hx => by omega, trivial⟩
  · obtain ⟨a2, c2, e2, _, _, h0⟩ := own_lies hown
    cases e2
    rcases h0 with h0 | ⟨x, e1, e2, e3⟩
    · omega
    · refine .inr ⟨x, 0, e1, ?_⟩
      rw [ownBlock_blkOf] at e2
      rcases hob with hob | ⟨g, hob, hg⟩
      · rw [hob] at e2
        exact hnv x e2
      · rw [hob] at e2; cases e2; omega
  · rcases f2 with f2 | ⟨x, o, e1, e2⟩
    · exact .inl f2
    · exact .inr ⟨x, o, e1, by omega⟩
theorem AnyS.otr2 {B0 M b : Nat} {r : Option Nat} {W w' : World} {h : Hd} {a : Option Addr} {c : Nat} {F : Vo} (x : AnyS B0 M W h a c F) (k : Otr b r W w') (hb : b < B0) (hr : (oneV h a c F).Blk (fun x => some x ≠ r)) : AnyS B0 M w' h a c F := by
  obtain ⟨⟨h1, h2⟩, h3, h4⟩ := x
  have hB : (oneV h a c F).Blk (fun x => ¬ x = b ∧ some x ≠ r) := (h3.and hr).mono fun x hx => ⟨by have := hx.1.1; omega, hx.2⟩
  exact ⟨⟨k.kin hB h1, k.cl hB h2⟩, h3.mono fun x hx => ⟨hx.1, Nat.lt_of_lt_of_le hx.2 k.1⟩, h4⟩
/-- a value alone in an array -/
theorem AnyS.wrap {B0 M nb : Nat} {w ws : World} {h : Hd} {a : Option Addr} {c : Nat} {F : Vo} (x : AnyS B0 M w h a c F) (hb : Below w.heap.size w ws) (hnb : B0 ≤ nb) (T : TypeId) (hcs : ws.heap[nb]? = some (.cells (six h a F.len c).toArray T (0, 0))) : AnyS B0 (M + 1) ws (hdK 5) (some ⟨nb, 0, none⟩) 1 (oneV h a c F) := by
  obtain ⟨⟨h1, h2⟩, h3, ⟨l1, l2, l3⟩, l4, l5, l6⟩ := x
  have hsw := sWt_le l6
  have hlt : nb < ws.heap.size := (Array.getElem?_eq_some_iff.1 hcs).1
  have hlie : Lies ws (some ⟨nb, 0, none⟩) (oneV h a c F).cells := by
    rw [Vo.cells_oneV]
    refine .inr ⟨nb, 0, rfl, fun i v hv => ?_⟩
    rw [Nat.zero_add]
    unfold World.cell?
    rw [hcs]
    simpa using hv
  refine ⟨⟨Vo.kin_one.2 ⟨hlie.in (Vo.kin_grow hb h1), ⟨Nat.le_refl _, by unfold maxLen; omega⟩, .inl rfl, ⟨Nat.le_refl _, Nat.zero_le _⟩, by show (ByteArray.mk #[]).size ≤ maxLen; exact Nat.zero_le _⟩, ⟨.inr ⟨⟨nb, 0, none⟩, _, T, rfl, hcs⟩, h2.below hb, trivial⟩⟩, ⟨.inl rfl, .inr ⟨nb, 0, rfl, hnb, hlt⟩, h3.mono fun x hx => ⟨hx.1, Nat.lt_of_lt_of_le hx.2 hb.size⟩, trivial⟩, ⟨?_, ?_, ?_⟩, Nat.zero_le _, Nat.zero_le _, fun s hs => by cases hs⟩
  · show F.size + 1 + 0 ≤ M + 1; omega
  · show h.t.size + F.wt + sWt h.ns + 1 + 0 ≤ 60 * (M + 1); omega
  · exact ⟨⟨l4, l3.1, trivial⟩, fun e => absurd e (by decide), ⟨⟨l3.2.1, l5, l6⟩, l3.2.2, trivial⟩⟩
end Go.Proofs.Ytalncebnahlmdaa
