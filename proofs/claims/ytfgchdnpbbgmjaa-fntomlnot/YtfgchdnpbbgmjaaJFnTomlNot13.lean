/- My own texts, joined: Xa Xb Xc OkA Xd. -/
import Derived.Test.YtfgchdnpbbgmjaaJFnTomlNot6
import Derived.Test.YtfgchdnpbbgmjaaJFnTomlNot12
import Derived.Test.YtfgchdnpbbgmjaaJFnTomlNot5
import Derived.Test.YtfgchdnpbbgmjaaJFnTomlNot4
import Derived.Test.YtfgchdnpbbgmjaaJFnTomlNot0
/- Values that are ok: names that ascend. -/
namespace Go.Proofs.Ytfgchdnpbbgmjaa
open Go.RowKit
/-- the first j texts are names, each less than the next -/
def nmAsc (ss : List ByteArray) (j : Nat) : Prop := ∀ i s, i < j → ss[i]? = some s → Qm.name s = true ∧ ∀ p, 0 < i → ss[i - 1]? = some p → Op.bytesLess p.toList s.toList = true
theorem nmAsc_zero (ss : List ByteArray) : nmAsc ss 0 := fun _ _ hi => absurd hi (Nat.not_lt_zero _)
theorem nmAsc_first {ss : List ByteArray} {s : ByteArray} (hs : ss[0]? = some s) (hn : Qm.name s = true) : nmAsc ss 1 := fun i u hi hu => by
  have e : i = 0 := by omega
  subst e
  rw [hs] at hu
  cases hu
  exact ⟨hn, fun p h0 => absurd h0 (Nat.lt_irrefl _)⟩
theorem nmAsc_next {ss : List ByteArray} {j : Nat} {s p : ByteArray} (h : nmAsc ss (j + 1)) (hs : ss[j + 1]? = some s) (hp : ss[j]? = some p) (hn : Qm.name s = true) (hl : Op.bytesLess p.toList s.toList = true) : nmAsc ss (j + 2) := fun i u hi hu => by
  by_cases e : i = j + 1
  · subst e
    rw [hs] at hu
    cases hu
    refine ⟨hn, fun p' _ hp' => ?_⟩
    rw [show j + 1 - 1 = j by omega, hp] at hp'
    cases hp'
    exact hl
  · exact h i u (by omega) hu
theorem nmAsc_bad {ss : List ByteArray} {j N : Nat} {s : ByteArray} (hj : j < N) (hs : ss[j]? = some s) (hn : Qm.name s = false) : ¬ nmAsc ss N := fun h => by
  have := (h j s hj hs).1
  rw [hn] at this
  cases this
theorem nmAsc_down {ss : List ByteArray} {j N : Nat} {s p : ByteArray} (hj : j + 1 < N) (hs : ss[j + 1]? = some s) (hp : ss[j]? = some p) (hl : Op.bytesLess p.toList s.toList = false) : ¬ nmAsc ss N := fun h => by
  have := (h (j + 1) s hj hs).2 p (by omega) (by rw [show j + 1 - 1 = j by omega]; exact hp)
  rw [hl] at this
  cases this
set_option maxRecDepth 100000 in
set_option maxHeartbeats 1000000 in
theorem nmA {Q : Exit → Act → World → Prop} {t1 t2 t4 t5 t6 t7 t8 t9 t10 t11 t12 t13 t14 t15 t16 t17 t18 t19 t20 t21 t22 t23 t24 t25 t26 t27 t28 t29 t30 t31 : Value} {W : World} {b o n c : Nat} {s : ByteArray} {j : Nat}
    (hj : (j : Int) < (n : Int)) (h1 : W.cell? ⟨b, o + j, none⟩ = some (.string s)) (hs : s.size ≤ maxLen) (hr : Qm.name s = false)
    (hp : ∀ p d v a w, Q (.panic p) (Act.put a d v) w → Q (.panic p) a w) (h : ∀ ws v10 v11 v12 v13 v14 v15 v16 v17 v18 v19 v20 v21 v22 v23 v24 v25 v26 v27 v28 v29 v30, Below W.heap.size W ws → Q .normal { tmps := ((.slice (some ⟨b, o, none⟩) n c) :: t1 :: t2 :: (.int .i64 (j : Nat)) :: t4 :: t5 :: t6 :: t7 :: t8 :: t9 :: v10 :: v11 :: v12 :: v13 :: v14 :: v15 :: v16 :: v17 :: v18 :: v19 :: v20 :: v21 :: v22 :: v23 :: v24 :: v25 :: v26 :: v27 :: v28 :: v29 :: v30 :: .bool true :: []).toArray, defers := [] } ws) :
    Code.wp Try.prog (Code.region 4 #[{ dst := some 10, op := Op.move (Operand.tmp 0), type := 26, pos := "l7_value.go:29", after := #[], guard := none }, { dst := some 11, op := Op.move (Operand.tmp 3), type := 3, pos := "l7_value.go:29", after := #[], guard := none }, { dst := some 12, op := Op.indexAddr 26 (Operand.tmp 10) (Operand.tmp 11), type := 0, pos := "l7_value.go:29", after := #[{ on := 0, ground := Ground.data }, { on := 1, ground := Ground.data }], guard := none }, { dst := some 13, op := Op.load 9 (Operand.tmp 12), type := 9, pos := "l7_value.go:29", after := #[{ on := 2, ground := Ground.data }], guard := none }, { dst := some 14, op := Op.call { callee := Callee.value (Operand.func 119), args := #[Operand.tmp 13], argTypes := #[9] }, type := 4, pos := "l7_value.go:29", after := #[{ on := 3, ground := Ground.data }], guard := none }, { dst := some 15, op := Op.unOp UnOp.not 4 (Operand.tmp 14), type := 4, pos := "l7_value.go:29", after := #[{ on := 4, ground := Ground.data }], guard := none }, { dst := some 16, op := Op.move (Operand.tmp 15), type := 4, pos := "l7_value.go:29", after := #[{ on := 5, ground := Ground.data }, { on := 4, ground := Ground.chain }], guard := none }, { dst := some 17, op := Op.move (Operand.tmp 3), type := 3, pos := "l7_value.go:29", after := #[{ on := 6, ground := Ground.guard }], guard := some (6, false) }, { dst := some 18, op := Op.binOp BinOp.gtr 3 (Operand.tmp 17) (Operand.const (Value.int IntKind.i64 0)) 3, type := 4, pos := "l7_value.go:29", after := #[{ on := 7, ground := Ground.data }, { on := 6, ground := Ground.guard }], guard := some (6, false) }, { dst := some 19, op := Op.move (Operand.tmp 18), type := 4, pos := "l7_value.go:29", after := #[{ on := 8, ground := Ground.data }, { on := 6, ground := Ground.chain }, { on := 6, ground := Ground.guard }], guard := some (6, false) }, { dst := some 20, op := Op.move (Operand.tmp 0), type := 26, pos := "l7_value.go:29", after := #[{ on := 9, ground := Ground.guard }], guard := some (9, true) }, { dst := some 21, op := Op.move (Operand.tmp 3), type := 3, pos := "l7_value.go:29", after := #[{ on := 9, ground := Ground.guard }], guard := some (9, true) }, { dst := some 22, op := Op.binOp BinOp.sub 3 (Operand.tmp 21) (Operand.const (Value.int IntKind.i64 1)) 3, type := 3, pos := "l7_value.go:29", after := #[{ on := 11, ground := Ground.data }, { on := 9, ground := Ground.guard }], guard := some (9, true) }, { dst := some 23, op := Op.indexAddr 26 (Operand.tmp 20) (Operand.tmp 22), type := 0, pos := "l7_value.go:29", after := #[{ on := 10, ground := Ground.data }, { on := 12, ground := Ground.data }, { on := 9, ground := Ground.guard }], guard := some (9, true) }, { dst := some 24, op := Op.load 9 (Operand.tmp 23), type := 9, pos := "l7_value.go:29", after := #[{ on := 13, ground := Ground.data }, { on := 9, ground := Ground.guard }], guard := some (9, true) }, { dst := some 25, op := Op.move (Operand.tmp 0), type := 26, pos := "l7_value.go:29", after := #[{ on := 9, ground := Ground.guard }], guard := some (9, true) }, { dst := some 26, op := Op.move (Operand.tmp 3), type := 3, pos := "l7_value.go:29", after := #[{ on := 9, ground := Ground.guard }], guard := some (9, true) }, { dst := some 27, op := Op.indexAddr 26 (Operand.tmp 25) (Operand.tmp 26), type := 0, pos := "l7_value.go:29", after := #[{ on := 15, ground := Ground.data }, { on := 16, ground := Ground.data }, { on := 9, ground := Ground.guard }], guard := some (9, true) }, { dst := some 28, op := Op.load 9 (Operand.tmp 27), type := 9, pos := "l7_value.go:29", after := #[{ on := 17, ground := Ground.data }, { on := 9, ground := Ground.guard }], guard := some (9, true) }, { dst := some 29, op := Op.binOp BinOp.geq 9 (Operand.tmp 24) (Operand.tmp 28) 9, type := 4, pos := "l7_value.go:29", after := #[{ on := 14, ground := Ground.data }, { on := 18, ground := Ground.data }, { on := 9, ground := Ground.guard }], guard := some (9, true) }, { dst := some 30, op := Op.pick (Operand.tmp 19) (Operand.tmp 29) (Operand.const (Value.bool false)), type := 4, pos := "l7_value.go:29", after := #[{ on := 9, ground := Ground.data }, { on := 19, ground := Ground.data }, { on := 6, ground := Ground.guard }], guard := some (6, false) }, { dst := some 31, op := Op.pick (Operand.tmp 16) (Operand.const (Value.bool true)) (Operand.tmp 30), type := 4, pos := "l7_value.go:29", after := #[{ on := 6, ground := Ground.data }, { on := 20, ground := Ground.data }], guard := none }] true) Q { tmps := ((.slice (some ⟨b, o, none⟩) n c) :: t1 :: t2 :: (.int .i64 (j : Nat)) :: t4 :: t5 :: t6 :: t7 :: t8 :: t9 :: t10 :: t11 :: t12 :: t13 :: t14 :: t15 :: t16 :: t17 :: t18 :: t19 :: t20 :: t21 :: t22 :: t23 :: t24 :: t25 :: t26 :: t27 :: t28 :: t29 :: t30 :: t31 :: []).toArray, defers := [] } W := by
  have HSof : Hid (∀ w', Below W.heap.size W w' → w'.cell? ⟨b, o + j, none⟩ = some (.string s)) := fun w' h => (h.cell (p := ⟨b, o + j, none⟩) (World.block_lt_of_cell? _ _ h1)).trans h1
  have hS0 := HSof.out _ ((Below.refl _ W).drew)
  have hB0 := (Below.refl W.heap.size W).drew
  refine wp_region_held_drew (S := fun w' => w'.cell? ⟨b, o + j, none⟩ = some (.string s)) (by kernel_rfl) hS0 (fun hHeld => ?_)
  refine wpAnyH_take (i := 0) (v := .slice (some ⟨b, o, none⟩) n c) rfl (by kernel_rfl) (by kernel_rfl) (by kernel_rfl) (fun _ _ _ h => hp _ _ _ _ _ h) (Or.inl ⟨by rfl, ?_⟩) (by assumption) ?_
  · intro w hSw
    (try dsimp only at hSw)
    go_simp
  (try simp only [Act.put, List.getElem_toArray, List.getElem_cons_zero, List.setIfInBounds_toArray, List.set_cons_zero, List.set_cons_succ])
  refine wpAnyH_take (i := 1) (v := .int .i64 (j : Nat)) rfl (by kernel_rfl) (by kernel_rfl) (by kernel_rfl) (fun _ _ _ h => hp _ _ _ _ _ h) (Or.inl ⟨by rfl, ?_⟩) (by assumption) ?_
  · intro w hSw
    (try dsimp only at hSw)
    go_simp
  (try simp only [Act.put, List.getElem_toArray, List.getElem_cons_zero, List.getElem_cons_succ, List.setIfInBounds_toArray, List.set_cons_zero, List.set_cons_succ])
  refine wpAnyH_take (i := 2) (v := .pointer (some ⟨b, o + j, none⟩)) rfl (by kernel_rfl) (by kernel_rfl) (by kernel_rfl) (fun _ _ _ h => hp _ _ _ _ _ h) (Or.inl ⟨by rfl, ?_⟩) (by assumption) ?_
  · intro w hSw
    (try dsimp only at hSw)
    go_simp
  (try simp only [Act.put, List.getElem_toArray, List.getElem_cons_zero, List.getElem_cons_succ, List.setIfInBounds_toArray, List.set_cons_zero, List.set_cons_succ])
  refine wpAnyH_take (i := 3) (v := .string s) rfl (by kernel_rfl) (by kernel_rfl) (by kernel_rfl) (fun _ _ _ h => hp _ _ _ _ _ h) (Or.inl ⟨by rfl, ?_⟩) (by assumption) ?_
  · intro w hSw
    (try dsimp only at hSw)
    go_simp
  (try simp only [Act.put, List.getElem_toArray, List.getElem_cons_zero, List.getElem_cons_succ, List.setIfInBounds_toArray, List.set_cons_zero, List.set_cons_succ])
  refine wpAnyH_ready (rs := [4]) (by kernel_rfl) (by simp) ?_
  refine AllReadyH.cons rfl (fun K hK => ?_) AllReadyH.nil
  go_simp
  refine (sNameOk_any s _ hs).mono ?_
  rintro r w1 ⟨rfl, hb1⟩
  have hB1 := hB0.trans (hb1.mono hB0.size)
  rw [hr]
  go_wp2_with fail
  refine hK.out _ _ (HSof.out _ hB1) (fun hHeld => ?_)
  clear hK K hb1 hB0
  refine wpAnyH_take (i := 5) (v := .bool true) rfl (by kernel_rfl) (by kernel_rfl) (by kernel_rfl) (fun _ _ _ h => hp _ _ _ _ _ h) (Or.inl ⟨by rfl, ?_⟩) (by assumption) ?_
  · intro w hSw
    (try dsimp only at hSw)
    go_simp
  (try simp only [Act.put, List.getElem_toArray, List.getElem_cons_zero, List.getElem_cons_succ, List.setIfInBounds_toArray, List.set_cons_zero, List.set_cons_succ])
  refine wpAnyH_take (i := 6) (v := .bool true) rfl (by kernel_rfl) (by kernel_rfl) (by kernel_rfl) (fun _ _ _ h => hp _ _ _ _ _ h) (Or.inl ⟨by rfl, ?_⟩) (by assumption) ?_
  · intro w hSw
    (try dsimp only at hSw)
    go_simp
  (try simp only [Act.put, List.getElem_toArray, List.getElem_cons_zero, List.getElem_cons_succ, List.setIfInBounds_toArray, List.set_cons_zero, List.set_cons_succ])
  refine wpAnyH_take (i := 7) (v := undef) rfl (by kernel_rfl) (by kernel_rfl) (by kernel_rfl) (fun _ _ _ h => hp _ _ _ _ _ h) (Or.inr ⟨by rfl, rfl⟩) (by assumption) ?_
  (try simp only [Act.put, List.getElem_toArray, List.getElem_cons_zero, List.getElem_cons_succ, List.setIfInBounds_toArray, List.set_cons_zero, List.set_cons_succ])
  refine wpAnyH_take (i := 8) (v := undef) rfl (by kernel_rfl) (by kernel_rfl) (by kernel_rfl) (fun _ _ _ h => hp _ _ _ _ _ h) (Or.inr ⟨by rfl, rfl⟩) (by assumption) ?_
  (try simp only [Act.put, List.getElem_toArray, List.getElem_cons_zero, List.getElem_cons_succ, List.setIfInBounds_toArray, List.set_cons_zero, List.set_cons_succ])
  refine wpAnyH_take (i := 9) (v := undef) rfl (by kernel_rfl) (by kernel_rfl) (by kernel_rfl) (fun _ _ _ h => hp _ _ _ _ _ h) (Or.inr ⟨by rfl, rfl⟩) (by assumption) ?_
  (try simp only [Act.put, List.getElem_toArray, List.getElem_cons_zero, List.getElem_cons_succ, List.setIfInBounds_toArray, List.set_cons_zero, List.set_cons_succ])
  refine wpAnyH_take (i := 10) (v := undef) rfl (by kernel_rfl) (by kernel_rfl) (by kernel_rfl) (fun _ _ _ h => hp _ _ _ _ _ h) (Or.inr ⟨by rfl, rfl⟩) (by assumption) ?_
  (try simp only [Act.put, List.getElem_toArray, List.getElem_cons_zero, List.getElem_cons_succ, List.setIfInBounds_toArray, List.set_cons_zero, List.set_cons_succ])
  refine wpAnyH_take (i := 11) (v := undef) rfl (by kernel_rfl) (by kernel_rfl) (by kernel_rfl) (fun _ _ _ h => hp _ _ _ _ _ h) (Or.inr ⟨by rfl, rfl⟩) (by assumption) ?_
  (try simp only [Act.put, List.getElem_toArray, List.getElem_cons_zero, List.getElem_cons_succ, List.setIfInBounds_toArray, List.set_cons_zero, List.set_cons_succ])
  refine wpAnyH_take (i := 12) (v := undef) rfl (by kernel_rfl) (by kernel_rfl) (by kernel_rfl) (fun _ _ _ h => hp _ _ _ _ _ h) (Or.inr ⟨by rfl, rfl⟩) (by assumption) ?_
  (try simp only [Act.put, List.getElem_toArray, List.getElem_cons_zero, List.getElem_cons_succ, List.setIfInBounds_toArray, List.set_cons_zero, List.set_cons_succ])
  refine wpAnyH_take (i := 13) (v := undef) rfl (by kernel_rfl) (by kernel_rfl) (by kernel_rfl) (fun _ _ _ h => hp _ _ _ _ _ h) (Or.inr ⟨by rfl, rfl⟩) (by assumption) ?_
  (try simp only [Act.put, List.getElem_toArray, List.getElem_cons_zero, List.getElem_cons_succ, List.setIfInBounds_toArray, List.set_cons_zero, List.set_cons_succ])
  refine wpAnyH_take (i := 14) (v := undef) rfl (by kernel_rfl) (by kernel_rfl) (by kernel_rfl) (fun _ _ _ h => hp _ _ _ _ _ h) (Or.inr ⟨by rfl, rfl⟩) (by assumption) ?_
  (try simp only [Act.put, List.getElem_toArray, List.getElem_cons_zero, List.getElem_cons_succ, List.setIfInBounds_toArray, List.set_cons_zero, List.set_cons_succ])
  refine wpAnyH_take (i := 15) (v := undef) rfl (by kernel_rfl) (by kernel_rfl) (by kernel_rfl) (fun _ _ _ h => hp _ _ _ _ _ h) (Or.inr ⟨by rfl, rfl⟩) (by assumption) ?_
  (try simp only [Act.put, List.getElem_toArray, List.getElem_cons_zero, List.getElem_cons_succ, List.setIfInBounds_toArray, List.set_cons_zero, List.set_cons_succ])
  refine wpAnyH_take (i := 16) (v := undef) rfl (by kernel_rfl) (by kernel_rfl) (by kernel_rfl) (fun _ _ _ h => hp _ _ _ _ _ h) (Or.inr ⟨by rfl, rfl⟩) (by assumption) ?_
  (try simp only [Act.put, List.getElem_toArray, List.getElem_cons_zero, List.getElem_cons_succ, List.setIfInBounds_toArray, List.set_cons_zero, List.set_cons_succ])
  refine wpAnyH_take (i := 17) (v := undef) rfl (by kernel_rfl) (by kernel_rfl) (by kernel_rfl) (fun _ _ _ h => hp _ _ _ _ _ h) (Or.inr ⟨by rfl, rfl⟩) (by assumption) ?_
  (try simp only [Act.put, List.getElem_toArray, List.getElem_cons_zero, List.getElem_cons_succ, List.setIfInBounds_toArray, List.set_cons_zero, List.set_cons_succ])
  refine wpAnyH_take (i := 18) (v := undef) rfl (by kernel_rfl) (by kernel_rfl) (by kernel_rfl) (fun _ _ _ h => hp _ _ _ _ _ h) (Or.inr ⟨by rfl, rfl⟩) (by assumption) ?_
  (try simp only [Act.put, List.getElem_toArray, List.getElem_cons_zero, List.getElem_cons_succ, List.setIfInBounds_toArray, List.set_cons_zero, List.set_cons_succ])
  refine wpAnyH_take (i := 19) (v := undef) rfl (by kernel_rfl) (by kernel_rfl) (by kernel_rfl) (fun _ _ _ h => hp _ _ _ _ _ h) (Or.inr ⟨by rfl, rfl⟩) (by assumption) ?_
  (try simp only [Act.put, List.getElem_toArray, List.getElem_cons_zero, List.getElem_cons_succ, List.setIfInBounds_toArray, List.set_cons_zero, List.set_cons_succ])
  refine wpAnyH_take (i := 20) (v := undef) rfl (by kernel_rfl) (by kernel_rfl) (by kernel_rfl) (fun _ _ _ h => hp _ _ _ _ _ h) (Or.inr ⟨by rfl, rfl⟩) (by assumption) ?_
  (try simp only [Act.put, List.getElem_toArray, List.getElem_cons_zero, List.getElem_cons_succ, List.setIfInBounds_toArray, List.set_cons_zero, List.set_cons_succ])
  refine wpAnyH_take (i := 21) (v := .bool true) rfl (by kernel_rfl) (by kernel_rfl) (by kernel_rfl) (fun _ _ _ h => hp _ _ _ _ _ h) (Or.inl ⟨by rfl, ?_⟩) (by assumption) ?_
  · intro w hSw
    (try dsimp only at hSw)
    go_simp
  (try simp only [Act.put, List.getElem_toArray, List.getElem_cons_zero, List.getElem_cons_succ, List.setIfInBounds_toArray, List.set_cons_zero, List.set_cons_succ])
  refine wpAnyH_done (by kernel_rfl) ?_ _
  exact h _ _ _ _ _ _ _ _ _ _ _ _ _ _ _ _ _ _ _ _ _ _ hB1
set_option maxRecDepth 100000 in
set_option maxHeartbeats 1000000 in
theorem nmB {Q : Exit → Act → World → Prop} {t1 t2 t4 t5 t6 t7 t8 t9 t10 t11 t12 t13 t14 t15 t16 t17 t18 t19 t20 t21 t22 t23 t24 t25 t26 t27 t28 t29 t30 t31 : Value} {W : World} {b o n c : Nat} {s : ByteArray}
    (hj : ¬ n = 0) (h1 : W.cell? ⟨b, o, none⟩ = some (.string s)) (hs : s.size ≤ maxLen) (hr : Qm.name s = true)
    (hp : ∀ p d v a w, Q (.panic p) (Act.put a d v) w → Q (.panic p) a w) (h : ∀ ws v10 v11 v12 v13 v14 v15 v16 v17 v18 v19 v20 v21 v22 v23 v24 v25 v26 v27 v28 v29 v30, Below W.heap.size W ws → Q .normal { tmps := ((.slice (some ⟨b, o, none⟩) n c) :: t1 :: t2 :: (.int .i64 (0 : Nat)) :: t4 :: t5 :: t6 :: t7 :: t8 :: t9 :: v10 :: v11 :: v12 :: v13 :: v14 :: v15 :: v16 :: v17 :: v18 :: v19 :: v20 :: v21 :: v22 :: v23 :: v24 :: v25 :: v26 :: v27 :: v28 :: v29 :: v30 :: .bool false :: []).toArray, defers := [] } ws) :
    Code.wp Try.prog (Code.region 4 #[{ dst := some 10, op := Op.move (Operand.tmp 0), type := 26, pos := "l7_value.go:29", after := #[], guard := none }, { dst := some 11, op := Op.move (Operand.tmp 3), type := 3, pos := "l7_value.go:29", after := #[], guard := none }, { dst := some 12, op := Op.indexAddr 26 (Operand.tmp 10) (Operand.tmp 11), type := 0, pos := "l7_value.go:29", after := #[{ on := 0, ground := Ground.data }, { on := 1, ground := Ground.data }], guard := none }, { dst := some 13, op := Op.load 9 (Operand.tmp 12), type := 9, pos := "l7_value.go:29", after := #[{ on := 2, ground := Ground.data }], guard := none }, { dst := some 14, op := Op.call { callee := Callee.value (Operand.func 119), args := #[Operand.tmp 13], argTypes := #[9] }, type := 4, pos := "l7_value.go:29", after := #[{ on := 3, ground := Ground.data }], guard := none }, { dst := some 15, op := Op.unOp UnOp.not 4 (Operand.tmp 14), type := 4, pos := "l7_value.go:29", after := #[{ on := 4, ground := Ground.data }], guard := none }, { dst := some 16, op := Op.move (Operand.tmp 15), type := 4, pos := "l7_value.go:29", after := #[{ on := 5, ground := Ground.data }, { on := 4, ground := Ground.chain }], guard := none }, { dst := some 17, op := Op.move (Operand.tmp 3), type := 3, pos := "l7_value.go:29", after := #[{ on := 6, ground := Ground.guard }], guard := some (6, false) }, { dst := some 18, op := Op.binOp BinOp.gtr 3 (Operand.tmp 17) (Operand.const (Value.int IntKind.i64 0)) 3, type := 4, pos := "l7_value.go:29", after := #[{ on := 7, ground := Ground.data }, { on := 6, ground := Ground.guard }], guard := some (6, false) }, { dst := some 19, op := Op.move (Operand.tmp 18), type := 4, pos := "l7_value.go:29", after := #[{ on := 8, ground := Ground.data }, { on := 6, ground := Ground.chain }, { on := 6, ground := Ground.guard }], guard := some (6, false) }, { dst := some 20, op := Op.move (Operand.tmp 0), type := 26, pos := "l7_value.go:29", after := #[{ on := 9, ground := Ground.guard }], guard := some (9, true) }, { dst := some 21, op := Op.move (Operand.tmp 3), type := 3, pos := "l7_value.go:29", after := #[{ on := 9, ground := Ground.guard }], guard := some (9, true) }, { dst := some 22, op := Op.binOp BinOp.sub 3 (Operand.tmp 21) (Operand.const (Value.int IntKind.i64 1)) 3, type := 3, pos := "l7_value.go:29", after := #[{ on := 11, ground := Ground.data }, { on := 9, ground := Ground.guard }], guard := some (9, true) }, { dst := some 23, op := Op.indexAddr 26 (Operand.tmp 20) (Operand.tmp 22), type := 0, pos := "l7_value.go:29", after := #[{ on := 10, ground := Ground.data }, { on := 12, ground := Ground.data }, { on := 9, ground := Ground.guard }], guard := some (9, true) }, { dst := some 24, op := Op.load 9 (Operand.tmp 23), type := 9, pos := "l7_value.go:29", after := #[{ on := 13, ground := Ground.data }, { on := 9, ground := Ground.guard }], guard := some (9, true) }, { dst := some 25, op := Op.move (Operand.tmp 0), type := 26, pos := "l7_value.go:29", after := #[{ on := 9, ground := Ground.guard }], guard := some (9, true) }, { dst := some 26, op := Op.move (Operand.tmp 3), type := 3, pos := "l7_value.go:29", after := #[{ on := 9, ground := Ground.guard }], guard := some (9, true) }, { dst := some 27, op := Op.indexAddr 26 (Operand.tmp 25) (Operand.tmp 26), type := 0, pos := "l7_value.go:29", after := #[{ on := 15, ground := Ground.data }, { on := 16, ground := Ground.data }, { on := 9, ground := Ground.guard }], guard := some (9, true) }, { dst := some 28, op := Op.load 9 (Operand.tmp 27), type := 9, pos := "l7_value.go:29", after := #[{ on := 17, ground := Ground.data }, { on := 9, ground := Ground.guard }], guard := some (9, true) }, { dst := some 29, op := Op.binOp BinOp.geq 9 (Operand.tmp 24) (Operand.tmp 28) 9, type := 4, pos := "l7_value.go:29", after := #[{ on := 14, ground := Ground.data }, { on := 18, ground := Ground.data }, { on := 9, ground := Ground.guard }], guard := some (9, true) }, { dst := some 30, op := Op.pick (Operand.tmp 19) (Operand.tmp 29) (Operand.const (Value.bool false)), type := 4, pos := "l7_value.go:29", after := #[{ on := 9, ground := Ground.data }, { on := 19, ground := Ground.data }, { on := 6, ground := Ground.guard }], guard := some (6, false) }, { dst := some 31, op := Op.pick (Operand.tmp 16) (Operand.const (Value.bool true)) (Operand.tmp 30), type := 4, pos := "l7_value.go:29", after := #[{ on := 6, ground := Ground.data }, { on := 20, ground := Ground.data }], guard := none }] true) Q { tmps := ((.slice (some ⟨b, o, none⟩) n c) :: t1 :: t2 :: (.int .i64 (0 : Nat)) :: t4 :: t5 :: t6 :: t7 :: t8 :: t9 :: t10 :: t11 :: t12 :: t13 :: t14 :: t15 :: t16 :: t17 :: t18 :: t19 :: t20 :: t21 :: t22 :: t23 :: t24 :: t25 :: t26 :: t27 :: t28 :: t29 :: t30 :: t31 :: []).toArray, defers := [] } W := by
  have HSof : Hid (∀ w', Below W.heap.size W w' → w'.cell? ⟨b, o, none⟩ = some (.string s)) := fun w' h => (h.cell (p := ⟨b, o, none⟩) (World.block_lt_of_cell? _ _ h1)).trans h1
  have hS0 := HSof.out _ ((Below.refl _ W).drew)
  have hB0 := (Below.refl W.heap.size W).drew
  refine wp_region_held_drew (S := fun w' => w'.cell? ⟨b, o, none⟩ = some (.string s)) (by kernel_rfl) hS0 (fun hHeld => ?_)
  refine wpAnyH_take (i := 0) (v := .slice (some ⟨b, o, none⟩) n c) rfl (by kernel_rfl) (by kernel_rfl) (by kernel_rfl) (fun _ _ _ h => hp _ _ _ _ _ h) (Or.inl ⟨by rfl, ?_⟩) (by assumption) ?_
  · intro w hSw
    (try dsimp only at hSw)
    go_simp
  (try simp only [Act.put, List.getElem_toArray, List.getElem_cons_zero, List.setIfInBounds_toArray, List.set_cons_zero, List.set_cons_succ])
  refine wpAnyH_take (i := 1) (v := .int .i64 (0 : Nat)) rfl (by kernel_rfl) (by kernel_rfl) (by kernel_rfl) (fun _ _ _ h => hp _ _ _ _ _ h) (Or.inl ⟨by rfl, ?_⟩) (by assumption) ?_
  · intro w hSw
    (try dsimp only at hSw)
    go_simp
  (try simp only [Act.put, List.getElem_toArray, List.getElem_cons_zero, List.getElem_cons_succ, List.setIfInBounds_toArray, List.set_cons_zero, List.set_cons_succ])
  refine wpAnyH_take (i := 2) (v := .pointer (some ⟨b, o, none⟩)) rfl (by kernel_rfl) (by kernel_rfl) (by kernel_rfl) (fun _ _ _ h => hp _ _ _ _ _ h) (Or.inl ⟨by rfl, ?_⟩) (by assumption) ?_
  · intro w hSw
    (try dsimp only at hSw)
    go_simp
  (try simp only [Act.put, List.getElem_toArray, List.getElem_cons_zero, List.getElem_cons_succ, List.setIfInBounds_toArray, List.set_cons_zero, List.set_cons_succ])
  refine wpAnyH_take (i := 3) (v := .string s) rfl (by kernel_rfl) (by kernel_rfl) (by kernel_rfl) (fun _ _ _ h => hp _ _ _ _ _ h) (Or.inl ⟨by rfl, ?_⟩) (by assumption) ?_
  · intro w hSw
    (try dsimp only at hSw)
    go_simp
  (try simp only [Act.put, List.getElem_toArray, List.getElem_cons_zero, List.getElem_cons_succ, List.setIfInBounds_toArray, List.set_cons_zero, List.set_cons_succ])
  refine wpAnyH_ready (rs := [4]) (by kernel_rfl) (by simp) ?_
  refine AllReadyH.cons rfl (fun K hK => ?_) AllReadyH.nil
  go_simp
  refine (sNameOk_any s _ hs).mono ?_
  rintro r w1 ⟨rfl, hb1⟩
  have hB1 := hB0.trans (hb1.mono hB0.size)
  rw [hr]
  go_wp2_with fail
  refine hK.out _ _ (HSof.out _ hB1) (fun hHeld => ?_)
  clear hK K hb1 hB0
  refine wpAnyH_take (i := 5) (v := .bool false) rfl (by kernel_rfl) (by kernel_rfl) (by kernel_rfl) (fun _ _ _ h => hp _ _ _ _ _ h) (Or.inl ⟨by rfl, ?_⟩) (by assumption) ?_
  · intro w hSw
    (try dsimp only at hSw)
    go_simp
  (try simp only [Act.put, List.getElem_toArray, List.getElem_cons_zero, List.getElem_cons_succ, List.setIfInBounds_toArray, List.set_cons_zero, List.set_cons_succ])
  refine wpAnyH_take (i := 6) (v := .bool false) rfl (by kernel_rfl) (by kernel_rfl) (by kernel_rfl) (fun _ _ _ h => hp _ _ _ _ _ h) (Or.inl ⟨by rfl, ?_⟩) (by assumption) ?_
  · intro w hSw
    (try dsimp only at hSw)
    go_simp
  (try simp only [Act.put, List.getElem_toArray, List.getElem_cons_zero, List.getElem_cons_succ, List.setIfInBounds_toArray, List.set_cons_zero, List.set_cons_succ])
  refine wpAnyH_take (i := 7) (v := .int .i64 (0 : Nat)) rfl (by kernel_rfl) (by kernel_rfl) (by kernel_rfl) (fun _ _ _ h => hp _ _ _ _ _ h) (Or.inl ⟨by rfl, ?_⟩) (by assumption) ?_
  · intro w hSw
    (try dsimp only at hSw)
    go_simp
  (try simp only [Act.put, List.getElem_toArray, List.getElem_cons_zero, List.getElem_cons_succ, List.setIfInBounds_toArray, List.set_cons_zero, List.set_cons_succ])
  refine wpAnyH_take (i := 8) (v := .bool false) rfl (by kernel_rfl) (by kernel_rfl) (by kernel_rfl) (fun _ _ _ h => hp _ _ _ _ _ h) (Or.inl ⟨by rfl, ?_⟩) (by assumption) ?_
  · intro w hSw
    (try dsimp only at hSw)
    go_simp
  (try simp only [Act.put, List.getElem_toArray, List.getElem_cons_zero, List.getElem_cons_succ, List.setIfInBounds_toArray, List.set_cons_zero, List.set_cons_succ])
  refine wpAnyH_take (i := 9) (v := .bool false) rfl (by kernel_rfl) (by kernel_rfl) (by kernel_rfl) (fun _ _ _ h => hp _ _ _ _ _ h) (Or.inl ⟨by rfl, ?_⟩) (by assumption) ?_
  · intro w hSw
    (try dsimp only at hSw)
    go_simp
  (try simp only [Act.put, List.getElem_toArray, List.getElem_cons_zero, List.getElem_cons_succ, List.setIfInBounds_toArray, List.set_cons_zero, List.set_cons_succ])
  refine wpAnyH_take (i := 10) (v := undef) rfl (by kernel_rfl) (by kernel_rfl) (by kernel_rfl) (fun _ _ _ h => hp _ _ _ _ _ h) (Or.inr ⟨by rfl, rfl⟩) (by assumption) ?_
  (try simp only [Act.put, List.getElem_toArray, List.getElem_cons_zero, List.getElem_cons_succ, List.setIfInBounds_toArray, List.set_cons_zero, List.set_cons_succ])
  refine wpAnyH_take (i := 11) (v := undef) rfl (by kernel_rfl) (by kernel_rfl) (by kernel_rfl) (fun _ _ _ h => hp _ _ _ _ _ h) (Or.inr ⟨by rfl, rfl⟩) (by assumption) ?_
  (try simp only [Act.put, List.getElem_toArray, List.getElem_cons_zero, List.getElem_cons_succ, List.setIfInBounds_toArray, List.set_cons_zero, List.set_cons_succ])
  refine wpAnyH_take (i := 12) (v := undef) rfl (by kernel_rfl) (by kernel_rfl) (by kernel_rfl) (fun _ _ _ h => hp _ _ _ _ _ h) (Or.inr ⟨by rfl, rfl⟩) (by assumption) ?_
  (try simp only [Act.put, List.getElem_toArray, List.getElem_cons_zero, List.getElem_cons_succ, List.setIfInBounds_toArray, List.set_cons_zero, List.set_cons_succ])
  refine wpAnyH_take (i := 13) (v := undef) rfl (by kernel_rfl) (by kernel_rfl) (by kernel_rfl) (fun _ _ _ h => hp _ _ _ _ _ h) (Or.inr ⟨by rfl, rfl⟩) (by assumption) ?_
  (try simp only [Act.put, List.getElem_toArray, List.getElem_cons_zero, List.getElem_cons_succ, List.setIfInBounds_toArray, List.set_cons_zero, List.set_cons_succ])
  refine wpAnyH_take (i := 14) (v := undef) rfl (by kernel_rfl) (by kernel_rfl) (by kernel_rfl) (fun _ _ _ h => hp _ _ _ _ _ h) (Or.inr ⟨by rfl, rfl⟩) (by assumption) ?_
  (try simp only [Act.put, List.getElem_toArray, List.getElem_cons_zero, List.getElem_cons_succ, List.setIfInBounds_toArray, List.set_cons_zero, List.set_cons_succ])
  refine wpAnyH_take (i := 15) (v := undef) rfl (by kernel_rfl) (by kernel_rfl) (by kernel_rfl) (fun _ _ _ h => hp _ _ _ _ _ h) (Or.inr ⟨by rfl, rfl⟩) (by assumption) ?_
  (try simp only [Act.put, List.getElem_toArray, List.getElem_cons_zero, List.getElem_cons_succ, List.setIfInBounds_toArray, List.set_cons_zero, List.set_cons_succ])
  refine wpAnyH_take (i := 16) (v := undef) rfl (by kernel_rfl) (by kernel_rfl) (by kernel_rfl) (fun _ _ _ h => hp _ _ _ _ _ h) (Or.inr ⟨by rfl, rfl⟩) (by assumption) ?_
  (try simp only [Act.put, List.getElem_toArray, List.getElem_cons_zero, List.getElem_cons_succ, List.setIfInBounds_toArray, List.set_cons_zero, List.set_cons_succ])
  refine wpAnyH_take (i := 17) (v := undef) rfl (by kernel_rfl) (by kernel_rfl) (by kernel_rfl) (fun _ _ _ h => hp _ _ _ _ _ h) (Or.inr ⟨by rfl, rfl⟩) (by assumption) ?_
  (try simp only [Act.put, List.getElem_toArray, List.getElem_cons_zero, List.getElem_cons_succ, List.setIfInBounds_toArray, List.set_cons_zero, List.set_cons_succ])
  refine wpAnyH_take (i := 18) (v := undef) rfl (by kernel_rfl) (by kernel_rfl) (by kernel_rfl) (fun _ _ _ h => hp _ _ _ _ _ h) (Or.inr ⟨by rfl, rfl⟩) (by assumption) ?_
  (try simp only [Act.put, List.getElem_toArray, List.getElem_cons_zero, List.getElem_cons_succ, List.setIfInBounds_toArray, List.set_cons_zero, List.set_cons_succ])
  refine wpAnyH_take (i := 19) (v := undef) rfl (by kernel_rfl) (by kernel_rfl) (by kernel_rfl) (fun _ _ _ h => hp _ _ _ _ _ h) (Or.inr ⟨by rfl, rfl⟩) (by assumption) ?_
  (try simp only [Act.put, List.getElem_toArray, List.getElem_cons_zero, List.getElem_cons_succ, List.setIfInBounds_toArray, List.set_cons_zero, List.set_cons_succ])
  refine wpAnyH_take (i := 20) (v := .bool false) rfl (by kernel_rfl) (by kernel_rfl) (by kernel_rfl) (fun _ _ _ h => hp _ _ _ _ _ h) (Or.inl ⟨by rfl, ?_⟩) (by assumption) ?_
  · intro w hSw
    (try dsimp only at hSw)
    go_simp
  (try simp only [Act.put, List.getElem_toArray, List.getElem_cons_zero, List.getElem_cons_succ, List.setIfInBounds_toArray, List.set_cons_zero, List.set_cons_succ])
  refine wpAnyH_take (i := 21) (v := .bool false) rfl (by kernel_rfl) (by kernel_rfl) (by kernel_rfl) (fun _ _ _ h => hp _ _ _ _ _ h) (Or.inl ⟨by rfl, ?_⟩) (by assumption) ?_
  · intro w hSw
    (try dsimp only at hSw)
    go_simp
  (try simp only [Act.put, List.getElem_toArray, List.getElem_cons_zero, List.getElem_cons_succ, List.setIfInBounds_toArray, List.set_cons_zero, List.set_cons_succ])
  refine wpAnyH_done (by kernel_rfl) ?_ _
  exact h _ _ _ _ _ _ _ _ _ _ _ _ _ _ _ _ _ _ _ _ _ _ hB1
set_option maxRecDepth 100000 in
set_option maxHeartbeats 1000000 in
theorem nmC {Q : Exit → Act → World → Prop} {t1 t2 t4 t5 t6 t7 t8 t9 t10 t11 t12 t13 t14 t15 t16 t17 t18 t19 t20 t21 t22 t23 t24 t25 t26 t27 t28 t29 t30 t31 : Value} {W : World} {b o n c : Nat} {s : ByteArray} {i : Nat} {p : ByteArray} {q : Bool}
    (hj : (i : Int) + 1 < (n : Int)) (h1 : W.cell? ⟨b, o + (i + 1), none⟩ = some (.string s)) (hs : s.size ≤ maxLen) (hr : Qm.name s = true) (him : (i : Int) ≤ 9223372036854775806) (h2 : W.cell? ⟨b, o + i, none⟩ = some (.string p)) (hq : Op.bytesLess p.toList s.toList = !q)
    (hp : ∀ p d v a w, Q (.panic p) (Act.put a d v) w → Q (.panic p) a w) (h : ∀ ws v10 v11 v12 v13 v14 v15 v16 v17 v18 v19 v20 v21 v22 v23 v24 v25 v26 v27 v28 v29 v30, Below W.heap.size W ws → Q .normal { tmps := ((.slice (some ⟨b, o, none⟩) n c) :: t1 :: t2 :: (.int .i64 ((i + 1 : Nat) : Int)) :: t4 :: t5 :: t6 :: t7 :: t8 :: t9 :: v10 :: v11 :: v12 :: v13 :: v14 :: v15 :: v16 :: v17 :: v18 :: v19 :: v20 :: v21 :: v22 :: v23 :: v24 :: v25 :: v26 :: v27 :: v28 :: v29 :: v30 :: .bool q :: []).toArray, defers := [] } ws) :
    Code.wp Try.prog (Code.region 4 #[{ dst := some 10, op := Op.move (Operand.tmp 0), type := 26, pos := "l7_value.go:29", after := #[], guard := none }, { dst := some 11, op := Op.move (Operand.tmp 3), type := 3, pos := "l7_value.go:29", after := #[], guard := none }, { dst := some 12, op := Op.indexAddr 26 (Operand.tmp 10) (Operand.tmp 11), type := 0, pos := "l7_value.go:29", after := #[{ on := 0, ground := Ground.data }, { on := 1, ground := Ground.data }], guard := none }, { dst := some 13, op := Op.load 9 (Operand.tmp 12), type := 9, pos := "l7_value.go:29", after := #[{ on := 2, ground := Ground.data }], guard := none }, { dst := some 14, op := Op.call { callee := Callee.value (Operand.func 119), args := #[Operand.tmp 13], argTypes := #[9] }, type := 4, pos := "l7_value.go:29", after := #[{ on := 3, ground := Ground.data }], guard := none }, { dst := some 15, op := Op.unOp UnOp.not 4 (Operand.tmp 14), type := 4, pos := "l7_value.go:29", after := #[{ on := 4, ground := Ground.data }], guard := none }, { dst := some 16, op := Op.move (Operand.tmp 15), type := 4, pos := "l7_value.go:29", after := #[{ on := 5, ground := Ground.data }, { on := 4, ground := Ground.chain }], guard := none }, { dst := some 17, op := Op.move (Operand.tmp 3), type := 3, pos := "l7_value.go:29", after := #[{ on := 6, ground := Ground.guard }], guard := some (6, false) }, { dst := some 18, op := Op.binOp BinOp.gtr 3 (Operand.tmp 17) (Operand.const (Value.int IntKind.i64 0)) 3, type := 4, pos := "l7_value.go:29", after := #[{ on := 7, ground := Ground.data }, { on := 6, ground := Ground.guard }], guard := some (6, false) }, { dst := some 19, op := Op.move (Operand.tmp 18), type := 4, pos := "l7_value.go:29", after := #[{ on := 8, ground := Ground.data }, { on := 6, ground := Ground.chain }, { on := 6, ground := Ground.guard }], guard := some (6, false) }, { dst := some 20, op := Op.move (Operand.tmp 0), type := 26, pos := "l7_value.go:29", after := #[{ on := 9, ground := Ground.guard }], guard := some (9, true) }, { dst := some 21, op := Op.move (Operand.tmp 3), type := 3, pos := "l7_value.go:29", after := #[{ on := 9, ground := Ground.guard }], guard := some (9, true) }, { dst := some 22, op := Op.binOp BinOp.sub 3 (Operand.tmp 21) (Operand.const (Value.int IntKind.i64 1)) 3, type := 3, pos := "l7_value.go:29", after := #[{ on := 11, ground := Ground.data }, { on := 9, ground := Ground.guard }], guard := some (9, true) }, { dst := some 23, op := Op.indexAddr 26 (Operand.tmp 20) (Operand.tmp 22), type := 0, pos := "l7_value.go:29", after := #[{ on := 10, ground := Ground.data }, { on := 12, ground := Ground.data }, { on := 9, ground := Ground.guard }], guard := some (9, true) }, { dst := some 24, op := Op.load 9 (Operand.tmp 23), type := 9, pos := "l7_value.go:29", after := #[{ on := 13, ground := Ground.data }, { on := 9, ground := Ground.guard }], guard := some (9, true) }, { dst := some 25, op := Op.move (Operand.tmp 0), type := 26, pos := "l7_value.go:29", after := #[{ on := 9, ground := Ground.guard }], guard := some (9, true) }, { dst := some 26, op := Op.move (Operand.tmp 3), type := 3, pos := "l7_value.go:29", after := #[{ on := 9, ground := Ground.guard }], guard := some (9, true) }, { dst := some 27, op := Op.indexAddr 26 (Operand.tmp 25) (Operand.tmp 26), type := 0, pos := "l7_value.go:29", after := #[{ on := 15, ground := Ground.data }, { on := 16, ground := Ground.data }, { on := 9, ground := Ground.guard }], guard := some (9, true) }, { dst := some 28, op := Op.load 9 (Operand.tmp 27), type := 9, pos := "l7_value.go:29", after := #[{ on := 17, ground := Ground.data }, { on := 9, ground := Ground.guard }], guard := some (9, true) }, { dst := some 29, op := Op.binOp BinOp.geq 9 (Operand.tmp 24) (Operand.tmp 28) 9, type := 4, pos := "l7_value.go:29", after := #[{ on := 14, ground := Ground.data }, { on := 18, ground := Ground.data }, { on := 9, ground := Ground.guard }], guard := some (9, true) }, { dst := some 30, op := Op.pick (Operand.tmp 19) (Operand.tmp 29) (Operand.const (Value.bool false)), type := 4, pos := "l7_value.go:29", after := #[{ on := 9, ground := Ground.data }, { on := 19, ground := Ground.data }, { on := 6, ground := Ground.guard }], guard := some (6, false) }, { dst := some 31, op := Op.pick (Operand.tmp 16) (Operand.const (Value.bool true)) (Operand.tmp 30), type := 4, pos := "l7_value.go:29", after := #[{ on := 6, ground := Ground.data }, { on := 20, ground := Ground.data }], guard := none }] true) Q { tmps := ((.slice (some ⟨b, o, none⟩) n c) :: t1 :: t2 :: (.int .i64 ((i + 1 : Nat) : Int)) :: t4 :: t5 :: t6 :: t7 :: t8 :: t9 :: t10 :: t11 :: t12 :: t13 :: t14 :: t15 :: t16 :: t17 :: t18 :: t19 :: t20 :: t21 :: t22 :: t23 :: t24 :: t25 :: t26 :: t27 :: t28 :: t29 :: t30 :: t31 :: []).toArray, defers := [] } W := by
  have HSof : Hid (∀ w', Below W.heap.size W w' → w'.cell? ⟨b, o + (i + 1), none⟩ = some (.string s) ∧ w'.cell? ⟨b, o + i, none⟩ = some (.string p)) := fun w' h => ⟨(h.cell (p := ⟨b, o + (i + 1), none⟩) (World.block_lt_of_cell? _ _ h1)).trans h1, (h.cell (p := ⟨b, o + i, none⟩) (World.block_lt_of_cell? _ _ h2)).trans h2⟩
  have hj0 : ¬ (i : Int) + 1 < 0 := by omega
  have hS0 := HSof.out _ ((Below.refl _ W).drew)
  have hB0 := (Below.refl W.heap.size W).drew
  refine wp_region_held_drew (S := fun w' => w'.cell? ⟨b, o + (i + 1), none⟩ = some (.string s) ∧ w'.cell? ⟨b, o + i, none⟩ = some (.string p)) (by kernel_rfl) hS0 (fun hHeld => ?_)
  refine wpAnyH_take (i := 0) (v := .slice (some ⟨b, o, none⟩) n c) rfl (by kernel_rfl) (by kernel_rfl) (by kernel_rfl) (fun _ _ _ h => hp _ _ _ _ _ h) (Or.inl ⟨by rfl, ?_⟩) (by assumption) ?_
  · intro w hSw
    (try dsimp only at hSw)
    go_simp
  (try simp only [Act.put, List.getElem_toArray, List.getElem_cons_zero, List.setIfInBounds_toArray, List.set_cons_zero, List.set_cons_succ])
  refine wpAnyH_take (i := 1) (v := .int .i64 ((i + 1 : Nat) : Int)) rfl (by kernel_rfl) (by kernel_rfl) (by kernel_rfl) (fun _ _ _ h => hp _ _ _ _ _ h) (Or.inl ⟨by rfl, ?_⟩) (by assumption) ?_
  · intro w hSw
    (try dsimp only at hSw)
    go_simp
  (try simp only [Act.put, List.getElem_toArray, List.getElem_cons_zero, List.getElem_cons_succ, List.setIfInBounds_toArray, List.set_cons_zero, List.set_cons_succ])
  refine wpAnyH_take (i := 2) (v := .pointer (some ⟨b, o + (i + 1), none⟩)) rfl (by kernel_rfl) (by kernel_rfl) (by kernel_rfl) (fun _ _ _ h => hp _ _ _ _ _ h) (Or.inl ⟨by rfl, ?_⟩) (by assumption) ?_
  · intro w hSw
    (try dsimp only at hSw)
    go_simp
  (try simp only [Act.put, List.getElem_toArray, List.getElem_cons_zero, List.getElem_cons_succ, List.setIfInBounds_toArray, List.set_cons_zero, List.set_cons_succ])
  refine wpAnyH_take (i := 3) (v := .string s) rfl (by kernel_rfl) (by kernel_rfl) (by kernel_rfl) (fun _ _ _ h => hp _ _ _ _ _ h) (Or.inl ⟨by rfl, ?_⟩) (by assumption) ?_
  · intro w hSw
    (try dsimp only at hSw)
    go_simp
  (try simp only [Act.put, List.getElem_toArray, List.getElem_cons_zero, List.getElem_cons_succ, List.setIfInBounds_toArray, List.set_cons_zero, List.set_cons_succ])
  refine wpAnyH_ready (rs := [4]) (by kernel_rfl) (by simp) ?_
  refine AllReadyH.cons rfl (fun K hK => ?_) AllReadyH.nil
  go_simp
  refine (sNameOk_any s _ hs).mono ?_
  rintro r w1 ⟨rfl, hb1⟩
  have hB1 := hB0.trans (hb1.mono hB0.size)
  rw [hr]
  go_wp2_with fail
  refine hK.out _ _ (HSof.out _ hB1) (fun hHeld => ?_)
  clear hK K hb1 hB0
  refine wpAnyH_take (i := 5) (v := .bool false) rfl (by kernel_rfl) (by kernel_rfl) (by kernel_rfl) (fun _ _ _ h => hp _ _ _ _ _ h) (Or.inl ⟨by rfl, ?_⟩) (by assumption) ?_
  · intro w hSw
    (try dsimp only at hSw)
    go_simp
  (try simp only [Act.put, List.getElem_toArray, List.getElem_cons_zero, List.getElem_cons_succ, List.setIfInBounds_toArray, List.set_cons_zero, List.set_cons_succ])
  refine wpAnyH_take (i := 6) (v := .bool false) rfl (by kernel_rfl) (by kernel_rfl) (by kernel_rfl) (fun _ _ _ h => hp _ _ _ _ _ h) (Or.inl ⟨by rfl, ?_⟩) (by assumption) ?_
  · intro w hSw
    (try dsimp only at hSw)
    go_simp
  (try simp only [Act.put, List.getElem_toArray, List.getElem_cons_zero, List.getElem_cons_succ, List.setIfInBounds_toArray, List.set_cons_zero, List.set_cons_succ])
  refine wpAnyH_take (i := 7) (v := .int .i64 ((i + 1 : Nat) : Int)) rfl (by kernel_rfl) (by kernel_rfl) (by kernel_rfl) (fun _ _ _ h => hp _ _ _ _ _ h) (Or.inl ⟨by rfl, ?_⟩) (by assumption) ?_
  · intro w hSw
    (try dsimp only at hSw)
    go_simp
  (try simp only [Act.put, List.getElem_toArray, List.getElem_cons_zero, List.getElem_cons_succ, List.setIfInBounds_toArray, List.set_cons_zero, List.set_cons_succ])
  refine wpAnyH_take (i := 8) (v := .bool true) rfl (by kernel_rfl) (by kernel_rfl) (by kernel_rfl) (fun _ _ _ h => hp _ _ _ _ _ h) (Or.inl ⟨by rfl, ?_⟩) (by assumption) ?_
  · intro w hSw
    (try dsimp only at hSw)
    go_simp
  (try simp only [Act.put, List.getElem_toArray, List.getElem_cons_zero, List.getElem_cons_succ, List.setIfInBounds_toArray, List.set_cons_zero, List.set_cons_succ])
  refine wpAnyH_take (i := 9) (v := .bool true) rfl (by kernel_rfl) (by kernel_rfl) (by kernel_rfl) (fun _ _ _ h => hp _ _ _ _ _ h) (Or.inl ⟨by rfl, ?_⟩) (by assumption) ?_
  · intro w hSw
    (try dsimp only at hSw)
    go_simp
  (try simp only [Act.put, List.getElem_toArray, List.getElem_cons_zero, List.getElem_cons_succ, List.setIfInBounds_toArray, List.set_cons_zero, List.set_cons_succ])
  refine wpAnyH_take (i := 10) (v := .slice (some ⟨b, o, none⟩) n c) rfl (by kernel_rfl) (by kernel_rfl) (by kernel_rfl) (fun _ _ _ h => hp _ _ _ _ _ h) (Or.inl ⟨by rfl, ?_⟩) (by assumption) ?_
  · intro w hSw
    (try dsimp only at hSw)
    go_simp
  (try simp only [Act.put, List.getElem_toArray, List.getElem_cons_zero, List.getElem_cons_succ, List.setIfInBounds_toArray, List.set_cons_zero, List.set_cons_succ])
  refine wpAnyH_take (i := 11) (v := .int .i64 ((i + 1 : Nat) : Int)) rfl (by kernel_rfl) (by kernel_rfl) (by kernel_rfl) (fun _ _ _ h => hp _ _ _ _ _ h) (Or.inl ⟨by rfl, ?_⟩) (by assumption) ?_
  · intro w hSw
    (try dsimp only at hSw)
    go_simp
  (try simp only [Act.put, List.getElem_toArray, List.getElem_cons_zero, List.getElem_cons_succ, List.setIfInBounds_toArray, List.set_cons_zero, List.set_cons_succ])
  refine wpAnyH_take (i := 12) (v := .int .i64 (i : Nat)) rfl (by kernel_rfl) (by kernel_rfl) (by kernel_rfl) (fun _ _ _ h => hp _ _ _ _ _ h) (Or.inl ⟨by rfl, ?_⟩) (by assumption) ?_
  · intro w hSw
    (try dsimp only at hSw)
    (go_simp; first | done | (rw [IntKind.wrap_i64]; omega))
  (try simp only [Act.put, List.getElem_toArray, List.getElem_cons_zero, List.getElem_cons_succ, List.setIfInBounds_toArray, List.set_cons_zero, List.set_cons_succ])
  refine wpAnyH_take (i := 13) (v := .pointer (some ⟨b, o + i, none⟩)) rfl (by kernel_rfl) (by kernel_rfl) (by kernel_rfl) (fun _ _ _ h => hp _ _ _ _ _ h) (Or.inl ⟨by rfl, ?_⟩) (by assumption) ?_
  · intro w hSw
    (try dsimp only at hSw)
    (have hi : (i : Int) < (n : Int) := (by omega); go_simp)
  (try simp only [Act.put, List.getElem_toArray, List.getElem_cons_zero, List.getElem_cons_succ, List.setIfInBounds_toArray, List.set_cons_zero, List.set_cons_succ])
  refine wpAnyH_take (i := 14) (v := .string p) rfl (by kernel_rfl) (by kernel_rfl) (by kernel_rfl) (fun _ _ _ h => hp _ _ _ _ _ h) (Or.inl ⟨by rfl, ?_⟩) (by assumption) ?_
  · intro w hSw
    (try dsimp only at hSw)
    go_simp
  (try simp only [Act.put, List.getElem_toArray, List.getElem_cons_zero, List.getElem_cons_succ, List.setIfInBounds_toArray, List.set_cons_zero, List.set_cons_succ])
  refine wpAnyH_take (i := 15) (v := .slice (some ⟨b, o, none⟩) n c) rfl (by kernel_rfl) (by kernel_rfl) (by kernel_rfl) (fun _ _ _ h => hp _ _ _ _ _ h) (Or.inl ⟨by rfl, ?_⟩) (by assumption) ?_
  · intro w hSw
    (try dsimp only at hSw)
    go_simp
  (try simp only [Act.put, List.getElem_toArray, List.getElem_cons_zero, List.getElem_cons_succ, List.setIfInBounds_toArray, List.set_cons_zero, List.set_cons_succ])
  refine wpAnyH_take (i := 16) (v := .int .i64 ((i + 1 : Nat) : Int)) rfl (by kernel_rfl) (by kernel_rfl) (by kernel_rfl) (fun _ _ _ h => hp _ _ _ _ _ h) (Or.inl ⟨by rfl, ?_⟩) (by assumption) ?_
  · intro w hSw
    (try dsimp only at hSw)
    go_simp
  (try simp only [Act.put, List.getElem_toArray, List.getElem_cons_zero, List.getElem_cons_succ, List.setIfInBounds_toArray, List.set_cons_zero, List.set_cons_succ])
  refine wpAnyH_take (i := 17) (v := .pointer (some ⟨b, o + (i + 1), none⟩)) rfl (by kernel_rfl) (by kernel_rfl) (by kernel_rfl) (fun _ _ _ h => hp _ _ _ _ _ h) (Or.inl ⟨by rfl, ?_⟩) (by assumption) ?_
  · intro w hSw
    (try dsimp only at hSw)
    go_simp
  (try simp only [Act.put, List.getElem_toArray, List.getElem_cons_zero, List.getElem_cons_succ, List.setIfInBounds_toArray, List.set_cons_zero, List.set_cons_succ])
  refine wpAnyH_take (i := 18) (v := .string s) rfl (by kernel_rfl) (by kernel_rfl) (by kernel_rfl) (fun _ _ _ h => hp _ _ _ _ _ h) (Or.inl ⟨by rfl, ?_⟩) (by assumption) ?_
  · intro w hSw
    (try dsimp only at hSw)
    go_simp
  (try simp only [Act.put, List.getElem_toArray, List.getElem_cons_zero, List.getElem_cons_succ, List.setIfInBounds_toArray, List.set_cons_zero, List.set_cons_succ])
  refine wpAnyH_take (i := 19) (v := .bool q) rfl (by kernel_rfl) (by kernel_rfl) (by kernel_rfl) (fun _ _ _ h => hp _ _ _ _ _ h) (Or.inl ⟨by rfl, ?_⟩) (by assumption) ?_
  · intro w hSw
    (try dsimp only at hSw)
    go_simp
  (try simp only [Act.put, List.getElem_toArray, List.getElem_cons_zero, List.getElem_cons_succ, List.setIfInBounds_toArray, List.set_cons_zero, List.set_cons_succ])
  refine wpAnyH_take (i := 20) (v := .bool q) rfl (by kernel_rfl) (by kernel_rfl) (by kernel_rfl) (fun _ _ _ h => hp _ _ _ _ _ h) (Or.inl ⟨by rfl, ?_⟩) (by assumption) ?_
  · intro w hSw
    (try dsimp only at hSw)
    go_simp
  (try simp only [Act.put, List.getElem_toArray, List.getElem_cons_zero, List.getElem_cons_succ, List.setIfInBounds_toArray, List.set_cons_zero, List.set_cons_succ])
  refine wpAnyH_take (i := 21) (v := .bool q) rfl (by kernel_rfl) (by kernel_rfl) (by kernel_rfl) (fun _ _ _ h => hp _ _ _ _ _ h) (Or.inl ⟨by rfl, ?_⟩) (by assumption) ?_
  · intro w hSw
    (try dsimp only at hSw)
    go_simp
  (try simp only [Act.put, List.getElem_toArray, List.getElem_cons_zero, List.getElem_cons_succ, List.setIfInBounds_toArray, List.set_cons_zero, List.set_cons_succ])
  refine wpAnyH_done (by kernel_rfl) ?_ _
  exact h _ _ _ _ _ _ _ _ _ _ _ _ _ _ _ _ _ _ _ _ _ _ hB1
set_option maxRecDepth 100000 in
set_option maxHeartbeats 1000000 in
theorem l7Names_any (ss : List ByteArray) (a : Option Addr) (c : Nat) (w : World) (hin : SIn w ss a) (hl : ss.length ≤ c) (hc : c ≤ maxLen) :
    Calls Try.prog 100 #[.slice a ss.length c] w fun r w' => SaysT (nmAsc ss ss.length) r ∧ Below w.heap.size w w' := by
  unfold maxLen at hc
  obtain ⟨N, hN⟩ : ∃ N, ss.length = N := ⟨_, rfl⟩
  have HN : Hid (ss.length = N) := hN
  rw [hN] at hl ⊢
  clear hN
  go_enter Try.func100, Try.ntmps100
  go_wp2_with fail
  go_loopw [3] (fun i wr => ∃ (j : Nat), i = .int .i64 j ∧ j ≤ N ∧ nmAsc ss j ∧ Below w.heap.size w wr) (fun i _ => N - (intOf i).toNat)
  case atStart => exact ⟨0, rfl, Nat.zero_le _, nmAsc_zero ss, Below.refl _ _⟩
  case round =>
    obtain ⟨j, rfl, hj, hP, hb⟩ := hrel
    have HP : Hid (nmAsc ss j) := hP
    clear hP
    by_cases hjn : j < N
    · have hlt : (j : Int) < (N : Int) := by omega
      obtain ⟨s, hs⟩ : ∃ s, ss[j]? = some s := ⟨ss[j]'(by rw [HN.out]; exact hjn), List.getElem?_eq_getElem _⟩
      rcases hin with hin | ⟨b, o, rfl, hF⟩
      · rw [hin] at hs; simp at hs
      obtain ⟨h1, hsz⟩ := (hF.grow hb).at hs
      have HS : Hid (ss[j]? = some s) := hs
      clear hs
      cases hnm : Qm.name s
      · have HR : Hid (¬ nmAsc ss N) := nmAsc_bad hjn HS.out hnm
        clear hF
        go_wp2_with fail
        refine nmA hlt h1 hsz hnm (fun _ d _ _ _ h => by cases d <;> exact h) ?_
        intro ws v10 v11 v12 v13 v14 v15 v16 v17 v18 v19 v20 v21 v22 v23 v24 v25 v26 v27 v28 v29 v30 hb1
        have hb2 := hb.trans (hb1.mono hb.size)
        clear h1 hb1 hb
        go_wp2_with fail
        go_ret
        exact ⟨⟨false, rfl, fun h => (by cases h), fun h => absurd h HR.out⟩, hb2⟩
      · cases j with
        | zero =>
          clear hF
          go_wp2_with fail
          refine nmB (by omega) (show wr.cell? ⟨b, o, none⟩ = some (.string s) from h1) hsz hnm (fun _ d _ _ _ h => by cases d <;> exact h) ?_
          intro ws v10 v11 v12 v13 v14 v15 v16 v17 v18 v19 v20 v21 v22 v23 v24 v25 v26 v27 v28 v29 v30 hb1
          have hb2 := hb.trans (hb1.mono hb.size)
          clear h1 hb1 hb
          go_wp2_with fail
          go_round
          case rel => exact ⟨1, by go_num, by omega, nmAsc_first HS.out hnm, hb2⟩
          case measure => simp [intOf]; omega
        | succ i =>
          obtain ⟨p, hp⟩ : ∃ p, ss[i]? = some p := ⟨ss[i]'(by rw [HN.out]; omega), List.getElem?_eq_getElem _⟩
          have h2 := ((hF.grow hb).at hp).1
          have HPr : Hid (ss[i]? = some p) := hp
          clear hF hp
          have hlt' : (i : Int) + 1 < (N : Int) := by omega
          cases hbl : Op.bytesLess p.toList s.toList
          · have HR : Hid (¬ nmAsc ss N) := nmAsc_down hjn HS.out HPr.out hbl
            go_wp2_with fail
            refine nmC (i := i) hlt' h1 hsz hnm (by omega) h2 (q := true) (by rw [hbl]; rfl) (fun _ d _ _ _ h => by cases d <;> exact h) ?_
            intro ws v10 v11 v12 v13 v14 v15 v16 v17 v18 v19 v20 v21 v22 v23 v24 v25 v26 v27 v28 v29 v30 hb1
            have hb2 := hb.trans (hb1.mono hb.size)
            clear h1 h2 hb1 hb
            go_wp2_with fail
            go_ret
            exact ⟨⟨false, rfl, fun h => (by cases h), fun h => absurd h HR.out⟩, hb2⟩
          · go_wp2_with fail
            refine nmC (i := i) hlt' h1 hsz hnm (by omega) h2 (q := false) (by rw [hbl]; rfl) (fun _ d _ _ _ h => by cases d <;> exact h) ?_
            intro ws v10 v11 v12 v13 v14 v15 v16 v17 v18 v19 v20 v21 v22 v23 v24 v25 v26 v27 v28 v29 v30 hb1
            have hb2 := hb.trans (hb1.mono hb.size)
            clear h1 h2 hb1 hb
            go_wp2_with fail
            go_round
            case rel => exact ⟨i + 1 + 1, by go_num, by omega, nmAsc_next HP.out HS.out HPr.out hnm hbl, hb2⟩
            case measure => simp [intOf]; omega
    · have e : j = N := by omega
      subst e
      clear hin
      go_wp2_with fail
      go_ret
      exact ⟨⟨true, rfl, fun _ => HP.out, fun _ => rfl⟩, hb⟩
end Go.Proofs.Ytfgchdnpbbgmjaa
/- Values that are ok: what the program asks of an object. -/
namespace Go.Proofs.Ytfgchdnpbbgmjaa
open Go.RowKit
set_option maxRecDepth 100000 in
set_option maxHeartbeats 1000000 in
theorem objFits_any (ss : List ByteArray) (na : Option Addr) (nc : Nat) (a : Option Addr) (n c : Nat) (w : World) (hin : SIn w ss na) (hl : ss.length ≤ nc) (hc : nc ≤ maxLen) :
    Calls Try.prog 159 #[.agg #[.slice na ss.length nc, .slice a n c]] w fun r w' => SaysT (ss.length = n ∧ nmAsc ss ss.length) r ∧ Below w.heap.size w w' := by
  unfold maxLen at hc
  obtain ⟨N, hN⟩ : ∃ N, ss.length = N := ⟨_, rfl⟩
  have HN : Hid (ss.length = N) := hN
  rw [hN] at hl ⊢
  clear hN
  have hB0 := (Below.refl _ w).alloc (Nat.le_refl _) (.cells #[.slice na N nc, .slice a n c] 91)
  have R0 := Row.new w [.slice na N nc, .slice a n c] 91
  by_cases hne : N = n
  · subst hne
    go_enter Try.func159, Try.ntmps159
    go_wp2_with fail
    obtain ⟨W0, hW0⟩ : ∃ W0, w.alloc (.cells #[.slice na N nc, .slice a N c] 91) = W0 := ⟨_, rfl⟩
    rw [show w.alloc (.cells [.slice na N nc, .slice a N c].toArray 91) = W0 from hW0] at R0
    rw [hW0] at hB0
    have HBx : Hid (∀ W, Below W0.heap.size W0 W → W.cell? ⟨w.heap.size, 0, none⟩ = some (.slice na N nc)) := fun W h => (R0.below h R0.lt 0 _ rfl).1
    clear R0
    go_loopw [15] (fun i wr => ∃ (j : Nat), i = .int .i64 j ∧ j ≤ N ∧ nmAsc ss j ∧ Below W0.heap.size W0 wr) (fun i _ => N - (intOf i).toNat)
    case atStart => exact ⟨0, rfl, Nat.zero_le _, nmAsc_zero ss, by rw [hW0]; exact Below.refl _ _⟩
    case round =>
      obtain ⟨j, rfl, hj, hP, hbz⟩ := hrel
      have HP : Hid (nmAsc ss j) := hP
      clear hP hW0
      have hb := hB0.trans (hbz.mono hB0.size)
      have x0 := HBx.out _ hbz
      by_cases hjn : j < N
      · have hlt : (j : Int) < (N : Int) := by omega
        obtain ⟨s, hs⟩ : ∃ s, ss[j]? = some s := ⟨ss[j]'(by rw [HN.out]; exact hjn), List.getElem?_eq_getElem _⟩
        rcases hin with hin | ⟨b, o, rfl, hF⟩
        · rw [hin] at hs; simp at hs
        obtain ⟨h1, hsz⟩ := (hF.grow hb).at hs
        have HS : Hid (ss[j]? = some s) := hs
        clear hs
        have HNm := iNameOk_any s wr hsz
        cases hnm : Qm.name s
        · have HR : Hid (¬ (N = N ∧ nmAsc ss N)) := fun h => nmAsc_bad hjn HS.out hnm h.2
          rw [hnm] at HNm
          clear hF
          go_wp2_with (go_at_call 160; refine HNm.mono ?_; rintro e w' ⟨rfl, rfl⟩)
          go_ret
          exact ⟨⟨false, rfl, fun h => (by cases h), fun h => absurd h HR.out⟩, hb⟩
        · rw [hnm] at HNm
          cases j with
          | zero =>
            have h1' : wr.cell? ⟨b, o, none⟩ = some (.string s) := h1
            have hN0 : ¬ N = 0 := by omega
            clear hF h1
            go_wp2_with (go_at_call 160; refine HNm.mono ?_; rintro e w' ⟨rfl, rfl⟩)
            go_round
            case rel => exact ⟨1, by go_num, by omega, nmAsc_first HS.out hnm, hbz⟩
            case measure => simp [intOf]; omega
          | succ i =>
            obtain ⟨p, hp⟩ : ∃ p, ss[i]? = some p := ⟨ss[i]'(by rw [HN.out]; omega), List.getElem?_eq_getElem _⟩
            have h2 := ((hF.grow hb).at hp).1
            have HPr : Hid (ss[i]? = some p) := hp
            clear hF hp
            have hlt' : (i : Int) + 1 < (N : Int) := by omega
            have hlt2 : (i : Int) < (N : Int) := by omega
            have hj0 : ¬ (i : Int) + 1 < 0 := by omega
            have hj1 : (0 : Int) < (i : Int) + 1 := by omega
            cases hbl : Op.bytesLess p.toList s.toList
            · have HR : Hid (¬ (N = N ∧ nmAsc ss N)) := fun h => nmAsc_down hjn HS.out HPr.out hbl h.2
              go_wp2_with (go_at_call 160; refine HNm.mono ?_; rintro e w' ⟨rfl, rfl⟩)
              go_ret
              exact ⟨⟨false, rfl, fun h => (by cases h), fun h => absurd h HR.out⟩, hb⟩
            · go_wp2_with (go_at_call 160; refine HNm.mono ?_; rintro e w' ⟨rfl, rfl⟩)
              go_round
              case rel => exact ⟨i + 1 + 1, by go_num, by omega, nmAsc_next HP.out HS.out HPr.out hnm hbl, hbz⟩
              case measure => simp [intOf]; omega
      · have e : j = N := by omega
        subst e
        clear hin
        go_wp2_with fail
        go_ret
        exact ⟨⟨true, rfl, fun _ => ⟨trivial, HP.out⟩, fun _ => rfl⟩, hb⟩
  · have hne' : ¬ (N : Int) = (n : Int) := by omega
    clear hin R0
    go_enter Try.func159, Try.ntmps159
    go_wp2_with fail
    go_ret
    exact ⟨⟨false, rfl, fun h => (by cases h), fun h => absurd h.1 hne⟩, hB0⟩
end Go.Proofs.Ytfgchdnpbbgmjaa
/- Values that are ok: the region that asks whether a value fits. -/
namespace Go.Proofs.Ytfgchdnpbbgmjaa
open Go.RowKit
set_option maxRecDepth 100000 in
set_option maxHeartbeats 1000000 in
theorem ft2n {Q : Exit → Act → World → Prop} {t0 t1 t2 t4 t5 t6 t7 t8 t9 t10 t11 t12 t13 t14 t15 t16 t17 : Value} {W : World}
    
    (hp : ∀ p d v a w, Q (.panic p) (Act.put a d v) w → Q (.panic p) a w) (h : ∀ ws v6 v7 v8 v9 v10 v11 v12 v13 v14 v15 v16 v17, Below W.heap.size W ws → Q .normal { tmps := (t0 :: t1 :: .bool false :: .nilIface :: t4 :: t5 :: v6 :: v7 :: v8 :: v9 :: v10 :: v11 :: v12 :: v13 :: v14 :: v15 :: v16 :: v17 :: []).toArray, defers := [] } ws) :
    Code.wp Try.prog (Code.region 2 #[{ dst := some 6, op := Op.move (Operand.tmp 3), type := 110, pos := "l7_value.go:102", after := #[], guard := none }, { dst := some 7, op := Op.binOp BinOp.neq 110 (Operand.tmp 6) (Operand.const Value.nilIface) 110, type := 4, pos := "l7_value.go:102", after := #[{ on := 0, ground := Ground.data }], guard := none }, { dst := some 8, op := Op.move (Operand.tmp 7), type := 4, pos := "l7_value.go:102", after := #[{ on := 1, ground := Ground.data }], guard := none }, { dst := some 9, op := Op.move (Operand.tmp 3), type := 110, pos := "l7_value.go:102", after := #[{ on := 2, ground := Ground.guard }], guard := some (2, true) }, { dst := some 10, op := Op.call { callee := Callee.invoke (Operand.tmp 9) "loop.example/chancery/impl.fits", args := #[], argTypes := #[] }, type := 4, pos := "l7_value.go:102", after := #[{ on := 3, ground := Ground.data }, { on := 2, ground := Ground.chain }, { on := 2, ground := Ground.guard }], guard := some (2, true) }, { dst := some 11, op := Op.pick (Operand.tmp 8) (Operand.tmp 10) (Operand.const (Value.bool false)), type := 4, pos := "l7_value.go:102", after := #[{ on := 2, ground := Ground.data }, { on := 4, ground := Ground.data }], guard := none }, { dst := some 12, op := Op.move (Operand.tmp 11), type := 4, pos := "l7_value.go:102", after := #[{ on := 5, ground := Ground.data }, { on := 4, ground := Ground.chain }], guard := none }, { dst := some 13, op := Op.load 28 (Operand.tmp 1), type := 28, pos := "l7_value.go:102", after := #[{ on := 6, ground := Ground.guard }], guard := some (6, true) }, { dst := some 14, op := Op.move (Operand.tmp 3), type := 110, pos := "l7_value.go:102", after := #[{ on := 6, ground := Ground.guard }], guard := some (6, true) }, { dst := some 15, op := Op.call { callee := Callee.invoke (Operand.tmp 14) "loop.example/chancery/impl.value", args := #[], argTypes := #[] }, type := 28, pos := "l7_value.go:102", after := #[{ on := 8, ground := Ground.data }, { on := 6, ground := Ground.chain }, { on := 6, ground := Ground.guard }], guard := some (6, true) }, { dst := some 16, op := Op.call { callee := Callee.value (Operand.func 87), args := #[Operand.tmp 13, Operand.tmp 15], argTypes := #[28, 28] }, type := 4, pos := "l7_value.go:102", after := #[{ on := 7, ground := Ground.data }, { on := 9, ground := Ground.data }, { on := 9, ground := Ground.chain }, { on := 6, ground := Ground.guard }], guard := some (6, true) }, { dst := some 17, op := Op.pick (Operand.tmp 12) (Operand.tmp 16) (Operand.const (Value.bool false)), type := 4, pos := "l7_value.go:102", after := #[{ on := 6, ground := Ground.data }, { on := 10, ground := Ground.data }], guard := none }, { dst := some 2, op := Op.assign (Operand.tmp 17), type := 4, pos := "l7_value.go:102", after := #[{ on := 11, ground := Ground.data }, { on := 10, ground := Ground.chain }, { on := 0, ground := Ground.phase }, { on := 1, ground := Ground.phase }, { on := 2, ground := Ground.phase }, { on := 3, ground := Ground.phase }, { on := 4, ground := Ground.phase }, { on := 5, ground := Ground.phase }, { on := 6, ground := Ground.phase }, { on := 7, ground := Ground.phase }, { on := 8, ground := Ground.phase }, { on := 9, ground := Ground.phase }, { on := 10, ground := Ground.phase }, { on := 11, ground := Ground.phase }], guard := none }] true) Q { tmps := (t0 :: t1 :: t2 :: .nilIface :: t4 :: t5 :: t6 :: t7 :: t8 :: t9 :: t10 :: t11 :: t12 :: t13 :: t14 :: t15 :: t16 :: t17 :: []).toArray, defers := [] } W := by
  refine wp_region_held_drew (S := fun _ => True) (by kernel_rfl) trivial (fun hHeld => ?_)
  refine wpAnyH_take (i := 0) (v := .nilIface) rfl (by kernel_rfl) (by kernel_rfl) (by kernel_rfl) (fun _ _ _ h => hp _ _ _ _ _ h) (Or.inl ⟨by rfl, ?_⟩) (by assumption) ?_
  · intro w hSw
    (try dsimp only at hSw)
    go_simp
  (try simp only [Act.put, List.getElem_toArray, List.getElem_cons_zero, List.setIfInBounds_toArray, List.set_cons_zero, List.set_cons_succ])
  refine wpAnyH_take (i := 1) (v := .bool false) rfl (by kernel_rfl) (by kernel_rfl) (by kernel_rfl) (fun _ _ _ h => hp _ _ _ _ _ h) (Or.inl ⟨by rfl, ?_⟩) (by assumption) ?_
  · intro w hSw
    (try dsimp only at hSw)
    go_simp
  (try simp only [Act.put, List.getElem_toArray, List.getElem_cons_zero, List.getElem_cons_succ, List.setIfInBounds_toArray, List.set_cons_zero, List.set_cons_succ])
  refine wpAnyH_take (i := 2) (v := .bool false) rfl (by kernel_rfl) (by kernel_rfl) (by kernel_rfl) (fun _ _ _ h => hp _ _ _ _ _ h) (Or.inl ⟨by rfl, ?_⟩) (by assumption) ?_
  · intro w hSw
    (try dsimp only at hSw)
    go_simp
  (try simp only [Act.put, List.getElem_toArray, List.getElem_cons_zero, List.getElem_cons_succ, List.setIfInBounds_toArray, List.set_cons_zero, List.set_cons_succ])
  refine wpAnyH_take (i := 3) (v := undef) rfl (by kernel_rfl) (by kernel_rfl) (by kernel_rfl) (fun _ _ _ h => hp _ _ _ _ _ h) (Or.inr ⟨by rfl, rfl⟩) (by assumption) ?_
  (try simp only [Act.put, List.getElem_toArray, List.getElem_cons_zero, List.getElem_cons_succ, List.setIfInBounds_toArray, List.set_cons_zero, List.set_cons_succ])
  refine wpAnyH_take (i := 4) (v := undef) rfl (by kernel_rfl) (by kernel_rfl) (by kernel_rfl) (fun _ _ _ h => hp _ _ _ _ _ h) (Or.inr ⟨by rfl, rfl⟩) (by assumption) ?_
  (try simp only [Act.put, List.getElem_toArray, List.getElem_cons_zero, List.getElem_cons_succ, List.setIfInBounds_toArray, List.set_cons_zero, List.set_cons_succ])
  refine wpAnyH_take (i := 5) (v := .bool false) rfl (by kernel_rfl) (by kernel_rfl) (by kernel_rfl) (fun _ _ _ h => hp _ _ _ _ _ h) (Or.inl ⟨by rfl, ?_⟩) (by assumption) ?_
  · intro w hSw
    (try dsimp only at hSw)
    go_simp
  (try simp only [Act.put, List.getElem_toArray, List.getElem_cons_zero, List.getElem_cons_succ, List.setIfInBounds_toArray, List.set_cons_zero, List.set_cons_succ])
  refine wpAnyH_take (i := 6) (v := .bool false) rfl (by kernel_rfl) (by kernel_rfl) (by kernel_rfl) (fun _ _ _ h => hp _ _ _ _ _ h) (Or.inl ⟨by rfl, ?_⟩) (by assumption) ?_
  · intro w hSw
    (try dsimp only at hSw)
    go_simp
  (try simp only [Act.put, List.getElem_toArray, List.getElem_cons_zero, List.getElem_cons_succ, List.setIfInBounds_toArray, List.set_cons_zero, List.set_cons_succ])
  refine wpAnyH_take (i := 7) (v := undef) rfl (by kernel_rfl) (by kernel_rfl) (by kernel_rfl) (fun _ _ _ h => hp _ _ _ _ _ h) (Or.inr ⟨by rfl, rfl⟩) (by assumption) ?_
  (try simp only [Act.put, List.getElem_toArray, List.getElem_cons_zero, List.getElem_cons_succ, List.setIfInBounds_toArray, List.set_cons_zero, List.set_cons_succ])
  refine wpAnyH_take (i := 8) (v := undef) rfl (by kernel_rfl) (by kernel_rfl) (by kernel_rfl) (fun _ _ _ h => hp _ _ _ _ _ h) (Or.inr ⟨by rfl, rfl⟩) (by assumption) ?_
  (try simp only [Act.put, List.getElem_toArray, List.getElem_cons_zero, List.getElem_cons_succ, List.setIfInBounds_toArray, List.set_cons_zero, List.set_cons_succ])
  refine wpAnyH_take (i := 9) (v := undef) rfl (by kernel_rfl) (by kernel_rfl) (by kernel_rfl) (fun _ _ _ h => hp _ _ _ _ _ h) (Or.inr ⟨by rfl, rfl⟩) (by assumption) ?_
  (try simp only [Act.put, List.getElem_toArray, List.getElem_cons_zero, List.getElem_cons_succ, List.setIfInBounds_toArray, List.set_cons_zero, List.set_cons_succ])
  refine wpAnyH_take (i := 10) (v := undef) rfl (by kernel_rfl) (by kernel_rfl) (by kernel_rfl) (fun _ _ _ h => hp _ _ _ _ _ h) (Or.inr ⟨by rfl, rfl⟩) (by assumption) ?_
  (try simp only [Act.put, List.getElem_toArray, List.getElem_cons_zero, List.getElem_cons_succ, List.setIfInBounds_toArray, List.set_cons_zero, List.set_cons_succ])
  refine wpAnyH_take (i := 11) (v := .bool false) rfl (by kernel_rfl) (by kernel_rfl) (by kernel_rfl) (fun _ _ _ h => hp _ _ _ _ _ h) (Or.inl ⟨by rfl, ?_⟩) (by assumption) ?_
  · intro w hSw
    (try dsimp only at hSw)
    go_simp
  (try simp only [Act.put, List.getElem_toArray, List.getElem_cons_zero, List.getElem_cons_succ, List.setIfInBounds_toArray, List.set_cons_zero, List.set_cons_succ])
  refine wpAnyH_take (i := 12) (v := .bool false) rfl (by kernel_rfl) (by kernel_rfl) (by kernel_rfl) (fun _ _ _ h => hp _ _ _ _ _ h) (Or.inl ⟨by rfl, ?_⟩) (by assumption) ?_
  · intro w hSw
    (try dsimp only at hSw)
    go_simp
  (try simp only [Act.put, List.getElem_toArray, List.getElem_cons_zero, List.getElem_cons_succ, List.setIfInBounds_toArray, List.set_cons_zero, List.set_cons_succ])
  refine wpAnyH_done (by kernel_rfl) ?_ _
  exact h _ _ _ _ _ _ _ _ _ _ _ _ _ ((Below.refl W.heap.size W).drew)
set_option maxRecDepth 100000 in
set_option maxHeartbeats 1000000 in
theorem ft2 {Q : Exit → Act → World → Prop} {t0 t2 t4 t5 t6 t7 t8 t9 t10 t11 t12 t13 t14 t15 t16 t17 : Value} {W : World} {b n c gn gc : Nat} {hd g : Hd} {a ga : Option Addr} {T fid vid : Nat} {sv : Value} {P P2 : Bool → Prop}
    (hX : BxV b hd (.slice a n c) W) (he1 : ∀ args w, (callFunc fid args).run Try.prog w = .ok (.enter fid args) w) (he2 : ∀ args w, (callFunc vid args).run Try.prog w = .ok (.enter vid args) w) (hm1 : ∀ W', (method 282 T sv "loop.example/chancery/impl.fits").run Try.prog W' = .ok (fid, sv) W') (hm2 : ∀ W', (method 282 T sv "loop.example/chancery/impl.value").run Try.prog W' = .ok (vid, sv) W') (hfits : ∀ W', Below W.heap.size W W' → Calls Try.prog fid #[sv] W' fun r w' => (∃ q : Bool, r = .returned (.bool q) ∧ P q) ∧ Below W'.heap.size W' w') (hval : ∀ W', Below W.heap.size W W' → Calls Try.prog vid #[sv] W' fun r w' => r = .returned (valV g ga gn gc) ∧ Below W'.heap.size W' w') (hsame : ∀ W', Below W.heap.size W W' → Calls Try.prog 87 #[valV hd a n c, valV g ga gn gc] W' fun r w' => (∃ q : Bool, r = .returned (.bool q) ∧ P2 q) ∧ Below W'.heap.size W' w')
    (hp : ∀ p d v a w, Q (.panic p) (Act.put a d v) w → Q (.panic p) a w) (h : ∀ ws q v6 v7 v8 v9 v10 v11 v12 v13 v14 v15 v16 v17, ((P false ∧ q = false) ∨ (P true ∧ P2 q)) → Below W.heap.size W ws → Q .normal { tmps := (t0 :: .pointer (some ⟨b, 0, none⟩) :: .bool q :: (.iface T sv) :: t4 :: t5 :: v6 :: v7 :: v8 :: v9 :: v10 :: v11 :: v12 :: v13 :: v14 :: v15 :: v16 :: v17 :: []).toArray, defers := [] } ws) :
    Code.wp Try.prog (Code.region 2 #[{ dst := some 6, op := Op.move (Operand.tmp 3), type := 110, pos := "l7_value.go:102", after := #[], guard := none }, { dst := some 7, op := Op.binOp BinOp.neq 110 (Operand.tmp 6) (Operand.const Value.nilIface) 110, type := 4, pos := "l7_value.go:102", after := #[{ on := 0, ground := Ground.data }], guard := none }, { dst := some 8, op := Op.move (Operand.tmp 7), type := 4, pos := "l7_value.go:102", after := #[{ on := 1, ground := Ground.data }], guard := none }, { dst := some 9, op := Op.move (Operand.tmp 3), type := 110, pos := "l7_value.go:102", after := #[{ on := 2, ground := Ground.guard }], guard := some (2, true) }, { dst := some 10, op := Op.call { callee := Callee.invoke (Operand.tmp 9) "loop.example/chancery/impl.fits", args := #[], argTypes := #[] }, type := 4, pos := "l7_value.go:102", after := #[{ on := 3, ground := Ground.data }, { on := 2, ground := Ground.chain }, { on := 2, ground := Ground.guard }], guard := some (2, true) }, { dst := some 11, op := Op.pick (Operand.tmp 8) (Operand.tmp 10) (Operand.const (Value.bool false)), type := 4, pos := "l7_value.go:102", after := #[{ on := 2, ground := Ground.data }, { on := 4, ground := Ground.data }], guard := none }, { dst := some 12, op := Op.move (Operand.tmp 11), type := 4, pos := "l7_value.go:102", after := #[{ on := 5, ground := Ground.data }, { on := 4, ground := Ground.chain }], guard := none }, { dst := some 13, op := Op.load 28 (Operand.tmp 1), type := 28, pos := "l7_value.go:102", after := #[{ on := 6, ground := Ground.guard }], guard := some (6, true) }, { dst := some 14, op := Op.move (Operand.tmp 3), type := 110, pos := "l7_value.go:102", after := #[{ on := 6, ground := Ground.guard }], guard := some (6, true) }, { dst := some 15, op := Op.call { callee := Callee.invoke (Operand.tmp 14) "loop.example/chancery/impl.value", args := #[], argTypes := #[] }, type := 28, pos := "l7_value.go:102", after := #[{ on := 8, ground := Ground.data }, { on := 6, ground := Ground.chain }, { on := 6, ground := Ground.guard }], guard := some (6, true) }, { dst := some 16, op := Op.call { callee := Callee.value (Operand.func 87), args := #[Operand.tmp 13, Operand.tmp 15], argTypes := #[28, 28] }, type := 4, pos := "l7_value.go:102", after := #[{ on := 7, ground := Ground.data }, { on := 9, ground := Ground.data }, { on := 9, ground := Ground.chain }, { on := 6, ground := Ground.guard }], guard := some (6, true) }, { dst := some 17, op := Op.pick (Operand.tmp 12) (Operand.tmp 16) (Operand.const (Value.bool false)), type := 4, pos := "l7_value.go:102", after := #[{ on := 6, ground := Ground.data }, { on := 10, ground := Ground.data }], guard := none }, { dst := some 2, op := Op.assign (Operand.tmp 17), type := 4, pos := "l7_value.go:102", after := #[{ on := 11, ground := Ground.data }, { on := 10, ground := Ground.chain }, { on := 0, ground := Ground.phase }, { on := 1, ground := Ground.phase }, { on := 2, ground := Ground.phase }, { on := 3, ground := Ground.phase }, { on := 4, ground := Ground.phase }, { on := 5, ground := Ground.phase }, { on := 6, ground := Ground.phase }, { on := 7, ground := Ground.phase }, { on := 8, ground := Ground.phase }, { on := 9, ground := Ground.phase }, { on := 10, ground := Ground.phase }, { on := 11, ground := Ground.phase }], guard := none }] true) Q { tmps := (t0 :: .pointer (some ⟨b, 0, none⟩) :: t2 :: (.iface T sv) :: t4 :: t5 :: t6 :: t7 :: t8 :: t9 :: t10 :: t11 :: t12 :: t13 :: t14 :: t15 :: t16 :: t17 :: []).toArray, defers := [] } W := by
  have HSof : Hid (∀ w', Below W.heap.size W w' → BxV b hd (.slice a n c) w') := fun w' h => hX.below h
  have hS0 := HSof.out _ ((Below.refl _ W).drew)
  have hB0 := (Below.refl W.heap.size W).drew
  clear hX
  refine wp_region_held_drew (S := fun w' => BxV b hd (.slice a n c) w') (by kernel_rfl) hS0 (fun hHeld => ?_)
  refine wpAnyH_take (i := 0) (v := .iface T sv) rfl (by kernel_rfl) (by kernel_rfl) (by kernel_rfl) (fun _ _ _ h => hp _ _ _ _ _ h) (Or.inl ⟨by rfl, ?_⟩) (by assumption) ?_
  · intro w hSw
    (try dsimp only at hSw)
    go_simp
  (try simp only [Act.put, List.getElem_toArray, List.getElem_cons_zero, List.setIfInBounds_toArray, List.set_cons_zero, List.set_cons_succ])
  refine wpAnyH_take (i := 1) (v := .bool true) rfl (by kernel_rfl) (by kernel_rfl) (by kernel_rfl) (fun _ _ _ h => hp _ _ _ _ _ h) (Or.inl ⟨by rfl, ?_⟩) (by assumption) ?_
  · intro w hSw
    (try dsimp only at hSw)
    go_simp
  (try simp only [Act.put, List.getElem_toArray, List.getElem_cons_zero, List.getElem_cons_succ, List.setIfInBounds_toArray, List.set_cons_zero, List.set_cons_succ])
  refine wpAnyH_take (i := 2) (v := .bool true) rfl (by kernel_rfl) (by kernel_rfl) (by kernel_rfl) (fun _ _ _ h => hp _ _ _ _ _ h) (Or.inl ⟨by rfl, ?_⟩) (by assumption) ?_
  · intro w hSw
    (try dsimp only at hSw)
    go_simp
  (try simp only [Act.put, List.getElem_toArray, List.getElem_cons_zero, List.getElem_cons_succ, List.setIfInBounds_toArray, List.set_cons_zero, List.set_cons_succ])
  refine wpAnyH_take (i := 3) (v := .iface T sv) rfl (by kernel_rfl) (by kernel_rfl) (by kernel_rfl) (fun _ _ _ h => hp _ _ _ _ _ h) (Or.inl ⟨by rfl, ?_⟩) (by assumption) ?_
  · intro w hSw
    (try dsimp only at hSw)
    go_simp
  (try simp only [Act.put, List.getElem_toArray, List.getElem_cons_zero, List.getElem_cons_succ, List.setIfInBounds_toArray, List.set_cons_zero, List.set_cons_succ])
  refine wpAnyH_ready (rs := [4]) (by kernel_rfl) (by simp) ?_
  refine AllReadyH.cons rfl (fun K hK => ?_) AllReadyH.nil
  rw [if_pos (by rfl)]
  go_simp
  refine (hfits _ hB0).mono ?_
  rintro r w1 ⟨⟨q1, rfl, hq1⟩, hb1⟩
  have hB1 := hB0.trans (hb1.mono hB0.size)
  have HQ1 : Hid (P q1) := hq1
  clear hq1
  go_wp2_with fail
  refine hK.out _ _ (HSof.out _ hB1) (fun hHeld => ?_)
  clear hK K hb1 hB0 hfits
  cases q1
  · refine wpAnyH_take (i := 5) (v := .bool false) rfl (by kernel_rfl) (by kernel_rfl) (by kernel_rfl) (fun _ _ _ h => hp _ _ _ _ _ h) (Or.inl ⟨by rfl, ?_⟩) (by assumption) ?_
    · intro w hSw
      (try dsimp only at hSw)
      go_simp
    (try simp only [Act.put, List.getElem_toArray, List.getElem_cons_zero, List.getElem_cons_succ, List.setIfInBounds_toArray, List.set_cons_zero, List.set_cons_succ])
    refine wpAnyH_take (i := 6) (v := .bool false) rfl (by kernel_rfl) (by kernel_rfl) (by kernel_rfl) (fun _ _ _ h => hp _ _ _ _ _ h) (Or.inl ⟨by rfl, ?_⟩) (by assumption) ?_
    · intro w hSw
      (try dsimp only at hSw)
      go_simp
    (try simp only [Act.put, List.getElem_toArray, List.getElem_cons_zero, List.getElem_cons_succ, List.setIfInBounds_toArray, List.set_cons_zero, List.set_cons_succ])
    refine wpAnyH_take (i := 7) (v := undef) rfl (by kernel_rfl) (by kernel_rfl) (by kernel_rfl) (fun _ _ _ h => hp _ _ _ _ _ h) (Or.inr ⟨by rfl, rfl⟩) (by assumption) ?_
    (try simp only [Act.put, List.getElem_toArray, List.getElem_cons_zero, List.getElem_cons_succ, List.setIfInBounds_toArray, List.set_cons_zero, List.set_cons_succ])
    refine wpAnyH_take (i := 8) (v := undef) rfl (by kernel_rfl) (by kernel_rfl) (by kernel_rfl) (fun _ _ _ h => hp _ _ _ _ _ h) (Or.inr ⟨by rfl, rfl⟩) (by assumption) ?_
    (try simp only [Act.put, List.getElem_toArray, List.getElem_cons_zero, List.getElem_cons_succ, List.setIfInBounds_toArray, List.set_cons_zero, List.set_cons_succ])
    refine wpAnyH_take (i := 9) (v := undef) rfl (by kernel_rfl) (by kernel_rfl) (by kernel_rfl) (fun _ _ _ h => hp _ _ _ _ _ h) (Or.inr ⟨by rfl, rfl⟩) (by assumption) ?_
    (try simp only [Act.put, List.getElem_toArray, List.getElem_cons_zero, List.getElem_cons_succ, List.setIfInBounds_toArray, List.set_cons_zero, List.set_cons_succ])
    refine wpAnyH_take (i := 10) (v := undef) rfl (by kernel_rfl) (by kernel_rfl) (by kernel_rfl) (fun _ _ _ h => hp _ _ _ _ _ h) (Or.inr ⟨by rfl, rfl⟩) (by assumption) ?_
    (try simp only [Act.put, List.getElem_toArray, List.getElem_cons_zero, List.getElem_cons_succ, List.setIfInBounds_toArray, List.set_cons_zero, List.set_cons_succ])
    refine wpAnyH_take (i := 11) (v := .bool false) rfl (by kernel_rfl) (by kernel_rfl) (by kernel_rfl) (fun _ _ _ h => hp _ _ _ _ _ h) (Or.inl ⟨by rfl, ?_⟩) (by assumption) ?_
    · intro w hSw
      (try dsimp only at hSw)
      go_simp
    (try simp only [Act.put, List.getElem_toArray, List.getElem_cons_zero, List.getElem_cons_succ, List.setIfInBounds_toArray, List.set_cons_zero, List.set_cons_succ])
    refine wpAnyH_take (i := 12) (v := .bool false) rfl (by kernel_rfl) (by kernel_rfl) (by kernel_rfl) (fun _ _ _ h => hp _ _ _ _ _ h) (Or.inl ⟨by rfl, ?_⟩) (by assumption) ?_
    · intro w hSw
      (try dsimp only at hSw)
      go_simp
    (try simp only [Act.put, List.getElem_toArray, List.getElem_cons_zero, List.getElem_cons_succ, List.setIfInBounds_toArray, List.set_cons_zero, List.set_cons_succ])
    refine wpAnyH_done (by kernel_rfl) ?_ _
    exact h _ _ _ _ _ _ _ _ _ _ _ _ _ _ (.inl ⟨HQ1.out, rfl⟩) hB1
  · refine wpAnyH_take (i := 5) (v := .bool true) rfl (by kernel_rfl) (by kernel_rfl) (by kernel_rfl) (fun _ _ _ h => hp _ _ _ _ _ h) (Or.inl ⟨by rfl, ?_⟩) (by assumption) ?_
    · intro w hSw
      (try dsimp only at hSw)
      go_simp
    (try simp only [Act.put, List.getElem_toArray, List.getElem_cons_zero, List.getElem_cons_succ, List.setIfInBounds_toArray, List.set_cons_zero, List.set_cons_succ])
    refine wpAnyH_take (i := 6) (v := .bool true) rfl (by kernel_rfl) (by kernel_rfl) (by kernel_rfl) (fun _ _ _ h => hp _ _ _ _ _ h) (Or.inl ⟨by rfl, ?_⟩) (by assumption) ?_
    · intro w hSw
      (try dsimp only at hSw)
      go_simp
    (try simp only [Act.put, List.getElem_toArray, List.getElem_cons_zero, List.getElem_cons_succ, List.setIfInBounds_toArray, List.set_cons_zero, List.set_cons_succ])
    refine wpAnyH_take (i := 7) (v := valV hd a n c) rfl (by kernel_rfl) (by kernel_rfl) (by kernel_rfl) (fun _ _ _ h => hp _ _ _ _ _ h) (Or.inl ⟨by rfl, ?_⟩) (by assumption) ?_
    · intro w hSw
      (try dsimp only at hSw)
      go_simp
    (try simp only [Act.put, List.getElem_toArray, List.getElem_cons_zero, List.getElem_cons_succ, List.setIfInBounds_toArray, List.set_cons_zero, List.set_cons_succ])
    refine wpAnyH_take (i := 8) (v := .iface T sv) rfl (by kernel_rfl) (by kernel_rfl) (by kernel_rfl) (fun _ _ _ h => hp _ _ _ _ _ h) (Or.inl ⟨by rfl, ?_⟩) (by assumption) ?_
    · intro w hSw
      (try dsimp only at hSw)
      go_simp
    (try simp only [Act.put, List.getElem_toArray, List.getElem_cons_zero, List.getElem_cons_succ, List.setIfInBounds_toArray, List.set_cons_zero, List.set_cons_succ])
    refine wpAnyH_ready (rs := [9]) (by kernel_rfl) (by simp) ?_
    refine AllReadyH.cons rfl (fun K hK => ?_) AllReadyH.nil
    rw [if_pos (by rfl)]
    go_simp
    refine (hval _ hB1).mono ?_
    rintro r w2 ⟨rfl, hb2⟩
    have hB2 := hB1.trans (hb2.mono hB1.size)
    go_wp2_with fail
    refine hK.out _ _ (HSof.out _ hB2) (fun hHeld => ?_)
    clear hK K hb2 hB1 hval
    refine wpAnyH_ready (rs := [10]) (by kernel_rfl) (by simp) ?_
    refine AllReadyH.cons rfl (fun K hK => ?_) AllReadyH.nil
    rw [if_pos (by rfl)]
    go_simp
    refine (hsame _ hB2).mono ?_
    rintro r w3 ⟨⟨q2, rfl, hq2⟩, hb3⟩
    have hB3 := hB2.trans (hb3.mono hB2.size)
    have HQ2 : Hid (P2 q2) := hq2
    clear hq2
    go_wp2_with fail
    refine hK.out _ _ (HSof.out _ hB3) (fun hHeld => ?_)
    clear hK K hb3 hB2 hsame
    refine wpAnyH_take (i := 11) (v := .bool q2) rfl (by kernel_rfl) (by kernel_rfl) (by kernel_rfl) (fun _ _ _ h => hp _ _ _ _ _ h) (Or.inl ⟨by rfl, ?_⟩) (by assumption) ?_
    · intro w hSw
      (try dsimp only at hSw)
      go_simp
    (try simp only [Act.put, List.getElem_toArray, List.getElem_cons_zero, List.getElem_cons_succ, List.setIfInBounds_toArray, List.set_cons_zero, List.set_cons_succ])
    refine wpAnyH_take (i := 12) (v := .bool q2) rfl (by kernel_rfl) (by kernel_rfl) (by kernel_rfl) (fun _ _ _ h => hp _ _ _ _ _ h) (Or.inl ⟨by rfl, ?_⟩) (by assumption) ?_
    · intro w hSw
      (try dsimp only at hSw)
      go_simp
    (try simp only [Act.put, List.getElem_toArray, List.getElem_cons_zero, List.getElem_cons_succ, List.setIfInBounds_toArray, List.set_cons_zero, List.set_cons_succ])
    refine wpAnyH_done (by kernel_rfl) ?_ _
    exact h _ _ _ _ _ _ _ _ _ _ _ _ _ _ (.inr ⟨HQ1.out, HQ2.out⟩) hB3
end Go.Proofs.Ytfgchdnpbbgmjaa
/- Contracts for trees that are ok: the texts, the counts. -/
namespace Go.Proofs.Ytfgchdnpbbgmjaa
open Go.RowKit

set_option maxHeartbeats 400000 in
theorem shortText_any (s : ByteArray) (w : World) (hs : s.size ≤ maxLen) :
    Calls Try.prog 174 #[.string s] w fun e w' => e = .returned (.bool (decide (s.size ≤ 1500))) ∧ w' = w := by
  unfold maxLen at hs
  go_enter Try.func174, Try.ntmps174
  go_wp2_with fail
  go_ret
  exact ⟨lret_bool (by rw [Bool.eq_iff_iff]; first | (simp; done) | (simp; omega)), rfl⟩

end Go.Proofs.Ytfgchdnpbbgmjaa
/- Values that are ok: whether a value fits, by the program. -/
namespace Go.Proofs.Ytfgchdnpbbgmjaa
open Go.RowKit
/-- a value has just what its kind has; so many values are right in it -/
def one (h : Hd) (n : Nat) : Prop :=
  ((h.k = 0 ∨ h.k = 1 ∨ h.k = 2) ∧ ((h.m = 0 ∧ h.e = 0 ∧ h.t = ⟨#[]⟩) ∧ h.ns = []) ∧ n = 0) ∨
  (h.k = 3 ∧ Dm.ok h.m h.e = true ∧ (h.t = ⟨#[]⟩ ∧ h.ns = []) ∧ n = 0) ∨
  (h.k = 4 ∧ h.t.size ≤ 1500 ∧ (h.m = 0 ∧ h.e = 0 ∧ h.ns = []) ∧ n = 0) ∨
  (h.k = 5 ∧ (h.m = 0 ∧ h.e = 0 ∧ h.t = ⟨#[]⟩) ∧ h.ns = []) ∨
  (h.k = 6 ∧ (h.ns.length = n ∧ nmAsc h.ns h.ns.length) ∧ h.m = 0 ∧ h.e = 0 ∧ h.t = ⟨#[]⟩)
set_option maxHeartbeats 1000000 in
theorem sort_0 (h : Hd) (a : Option Addr) (n c : Nat) (w : World) (hk : h.k = 0) :
    Calls Try.prog 86 #[valV h a n c] w fun r w' => r = .returned (.iface 122 (.agg #[])) ∧ Below w.heap.size w w' := by
  obtain ⟨k, m, e, t, na, nc, ns⟩ := h
  dsimp only at hk
  subst hk
  go_enter Try.func86, Try.ntmps86
  go_wp2_with fail
  go_ret
  exact ⟨rfl, (Below.refl _ w).alloc (Nat.le_refl _) _⟩
set_option maxHeartbeats 1000000 in
theorem sort_1 (h : Hd) (a : Option Addr) (n c : Nat) (w : World) (hk : h.k = 1) :
    Calls Try.prog 86 #[valV h a n c] w fun r w' => r = .returned (.iface 123 (.bool true)) ∧ Below w.heap.size w w' := by
  obtain ⟨k, m, e, t, na, nc, ns⟩ := h
  dsimp only at hk
  subst hk
  go_enter Try.func86, Try.ntmps86
  go_wp2_with fail
  go_ret
  exact ⟨rfl, (Below.refl _ w).alloc (Nat.le_refl _) _⟩
set_option maxHeartbeats 1000000 in
theorem sort_2 (h : Hd) (a : Option Addr) (n c : Nat) (w : World) (hk : h.k = 2) :
    Calls Try.prog 86 #[valV h a n c] w fun r w' => r = .returned (.iface 123 (.bool false)) ∧ Below w.heap.size w w' := by
  obtain ⟨k, m, e, t, na, nc, ns⟩ := h
  dsimp only at hk
  subst hk
  go_enter Try.func86, Try.ntmps86
  go_wp2_with fail
  go_ret
  exact ⟨rfl, (Below.refl _ w).alloc (Nat.le_refl _) _⟩
set_option maxHeartbeats 1000000 in
theorem sort_3 (h : Hd) (a : Option Addr) (n c : Nat) (w : World) (hk : h.k = 3) :
    Calls Try.prog 86 #[valV h a n c] w fun r w' => r = .returned (.iface 124 (.agg #[.int .i64 h.m, .int .i64 h.e])) ∧ Below w.heap.size w w' := by
  obtain ⟨k, m, e, t, na, nc, ns⟩ := h
  dsimp only at hk
  subst hk
  go_enter Try.func86, Try.ntmps86
  go_wp2_with fail
  go_ret
  exact ⟨rfl, (Below.refl _ w).alloc (Nat.le_refl _) _⟩
set_option maxHeartbeats 1000000 in
theorem sort_4 (h : Hd) (a : Option Addr) (n c : Nat) (w : World) (hk : h.k = 4) :
    Calls Try.prog 86 #[valV h a n c] w fun r w' => r = .returned (.iface 125 (.string h.t)) ∧ Below w.heap.size w w' := by
  obtain ⟨k, m, e, t, na, nc, ns⟩ := h
  dsimp only at hk
  subst hk
  go_enter Try.func86, Try.ntmps86
  go_wp2_with fail
  go_ret
  exact ⟨rfl, (Below.refl _ w).alloc (Nat.le_refl _) _⟩
set_option maxHeartbeats 1000000 in
theorem sort_5 (h : Hd) (a : Option Addr) (n c : Nat) (w : World) (hk : h.k = 5) :
    Calls Try.prog 86 #[valV h a n c] w fun r w' => r = .returned (.iface 126 (.slice a n c)) ∧ Below w.heap.size w w' := by
  obtain ⟨k, m, e, t, na, nc, ns⟩ := h
  dsimp only at hk
  subst hk
  go_enter Try.func86, Try.ntmps86
  go_wp2_with fail
  go_ret
  exact ⟨rfl, (Below.refl _ w).alloc (Nat.le_refl _) _⟩
set_option maxHeartbeats 1000000 in
theorem sort_6 (h : Hd) (a : Option Addr) (n c : Nat) (w : World) (hk : h.k = 6) :
    Calls Try.prog 86 #[valV h a n c] w fun r w' => r = .returned (.iface 91 (.agg #[.slice h.na h.ns.length h.nc, .slice a n c])) ∧ Below w.heap.size w w' := by
  obtain ⟨k, m, e, t, na, nc, ns⟩ := h
  dsimp only at hk
  subst hk
  go_enter Try.func86, Try.ntmps86
  go_wp2_with fail
  go_ret
  exact ⟨rfl, (Below.refl _ w).alloc (Nat.le_refl _) _⟩
set_option maxHeartbeats 1000000 in
theorem sort_no (h : Hd) (a : Option Addr) (n c : Nat) (w : World) (hk : ¬ (0 ≤ h.k ∧ h.k ≤ 6)) :
    Calls Try.prog 86 #[valV h a n c] w fun r w' => r = .returned .nilIface ∧ Below w.heap.size w w' := by
  obtain ⟨k, m, e, t, na, nc, ns⟩ := h
  dsimp only at hk
  have h0 : (k == 0) = false := by simp; omega
  have h1 : (k == 1) = false := by simp; omega
  have h2 : (k == 2) = false := by simp; omega
  have h3 : (k == 3) = false := by simp; omega
  have h4 : (k == 4) = false := by simp; omega
  have h5 : (k == 5) = false := by simp; omega
  have h6 : (k == 6) = false := by simp; omega
  go_enter Try.func86, Try.ntmps86
  go_wp2_with fail
  go_ret
  exact ⟨rfl, (Below.refl _ w).alloc (Nat.le_refl _) _⟩
set_option maxHeartbeats 1000000 in
theorem nullSortValue_any (w : World) :
    Calls Try.prog 167 #[.agg #[]] w fun r w' => r = .returned (valV ⟨0, 0, 0, ⟨#[]⟩, none, 0, []⟩ none 0 0) ∧ Below w.heap.size w w' := by
  go_enter Try.func167, Try.ntmps167
  go_wp2_with fail
  exact bodyPost_ret (v := valV ⟨0, 0, 0, ⟨#[]⟩, none, 0, []⟩ none 0 0) (by simp [results, Try.results167, go_sem]) rfl ⟨rfl, (by (repeat' (first | assumption | exact Below.refl _ _ | refine Below.alloc ?_ ?_ _ | refine Below.setCell ?_ ?_ _ | refine Below.drew ?_ | refine below_drewN ?_ _)) <;> (first | omega | (simp <;> omega)))⟩
set_option maxHeartbeats 1000000 in
theorem truthSortValue_any (q : Bool) (w : World) :
    Calls Try.prog 169 #[.bool q] w fun r w' => r = .returned (valV ⟨if q then 1 else 2, 0, 0, ⟨#[]⟩, none, 0, []⟩ none 0 0) ∧ Below w.heap.size w w' := by
  cases q
  all_goals
    go_enter Try.func169, Try.ntmps169
    go_wp2_with fail
    refine bodyPost_ret (by simp [results, Try.results169, go_sem]) rfl ⟨rfl, (by (repeat' (first | assumption | exact Below.refl _ _ | refine Below.alloc ?_ ?_ _ | refine Below.setCell ?_ ?_ _ | refine Below.drew ?_ | refine below_drewN ?_ _)) <;> (first | omega | (simp <;> omega)))⟩
set_option maxHeartbeats 1000000 in
theorem numSortValue_any (m e : Int) (w : World) :
    Calls Try.prog 171 #[.agg #[.int .i64 m, .int .i64 e]] w fun r w' => r = .returned (valV ⟨3, m, e, ⟨#[]⟩, none, 0, []⟩ none 0 0) ∧ Below w.heap.size w w' := by
  go_enter Try.func171, Try.ntmps171
  go_wp2_with fail
  exact bodyPost_ret (v := valV ⟨3, m, e, ⟨#[]⟩, none, 0, []⟩ none 0 0) (by simp [results, Try.results171, go_sem]) rfl ⟨rfl, (by (repeat' (first | assumption | exact Below.refl _ _ | refine Below.alloc ?_ ?_ _ | refine Below.setCell ?_ ?_ _ | refine Below.drew ?_ | refine below_drewN ?_ _)) <;> (first | omega | (simp <;> omega)))⟩
set_option maxHeartbeats 1000000 in
theorem textSortValue_any (t : ByteArray) (w : World) :
    Calls Try.prog 173 #[.string t] w fun r w' => r = .returned (valV ⟨4, 0, 0, t, none, 0, []⟩ none 0 0) ∧ Below w.heap.size w w' := by
  go_enter Try.func173, Try.ntmps173
  go_wp2_with fail
  exact bodyPost_ret (v := valV ⟨4, 0, 0, t, none, 0, []⟩ none 0 0) (by simp [results, Try.results173, go_sem]) rfl ⟨rfl, (by (repeat' (first | assumption | exact Below.refl _ _ | refine Below.alloc ?_ ?_ _ | refine Below.setCell ?_ ?_ _ | refine Below.drew ?_ | refine below_drewN ?_ _)) <;> (first | omega | (simp <;> omega)))⟩
set_option maxHeartbeats 1000000 in
theorem arraySortValue_any (a : Option Addr) (n c : Nat) (w : World) :
    Calls Try.prog 176 #[.slice a n c] w fun r w' => r = .returned (valV ⟨5, 0, 0, ⟨#[]⟩, none, 0, []⟩ a n c) ∧ Below w.heap.size w w' := by
  go_enter Try.func176, Try.ntmps176
  go_wp2_with fail
  exact bodyPost_ret (v := valV ⟨5, 0, 0, ⟨#[]⟩, none, 0, []⟩ a n c) (by simp [results, Try.results176, go_sem]) rfl ⟨rfl, (by (repeat' (first | assumption | exact Below.refl _ _ | refine Below.alloc ?_ ?_ _ | refine Below.setCell ?_ ?_ _ | refine Below.drew ?_ | refine below_drewN ?_ _)) <;> (first | omega | (simp <;> omega)))⟩
set_option maxHeartbeats 1000000 in
theorem objectSortValue_any (na : Option Addr) (nc : Nat) (ns : List ByteArray) (a : Option Addr) (n c : Nat) (w : World) :
    Calls Try.prog 70 #[.agg #[.slice na ns.length nc, .slice a n c]] w fun r w' => r = .returned (valV ⟨6, 0, 0, ⟨#[]⟩, na, nc, ns⟩ a n c) ∧ Below w.heap.size w w' := by
  go_enter Try.func70, Try.ntmps70
  go_wp2_with fail
  exact bodyPost_ret (v := valV ⟨6, 0, 0, ⟨#[]⟩, na, nc, ns⟩ a n c) (by simp [results, Try.results70, go_sem]) rfl ⟨rfl, (by (repeat' (first | assumption | exact Below.refl _ _ | refine Below.alloc ?_ ?_ _ | refine Below.setCell ?_ ?_ _ | refine Below.drew ?_ | refine below_drewN ?_ _)) <;> (first | omega | (simp <;> omega)))⟩
set_option maxHeartbeats 1000000 in
theorem nullSortFits_any (w : World) :
    Calls Try.prog 166 #[.agg #[]] w fun r w' => (∃ q : Bool, r = .returned (.bool q) ∧ q = true) ∧ Below w.heap.size w w' := by
  go_enter Try.func166, Try.ntmps166
  go_wp2_with fail
  go_ret
  exact ⟨⟨true, rfl, rfl⟩, (by (repeat' (first | assumption | exact Below.refl _ _ | refine Below.alloc ?_ ?_ _ | refine Below.setCell ?_ ?_ _ | refine Below.drew ?_ | refine below_drewN ?_ _)) <;> (first | omega | (simp <;> omega)))⟩
set_option maxHeartbeats 1000000 in
theorem truthSortFits_any (q : Bool) (w : World) :
    Calls Try.prog 168 #[.bool q] w fun r w' => (∃ q : Bool, r = .returned (.bool q) ∧ q = true) ∧ Below w.heap.size w w' := by
  go_enter Try.func168, Try.ntmps168
  go_wp2_with fail
  go_ret
  exact ⟨⟨true, rfl, rfl⟩, (by (repeat' (first | assumption | exact Below.refl _ _ | refine Below.alloc ?_ ?_ _ | refine Below.setCell ?_ ?_ _ | refine Below.drew ?_ | refine below_drewN ?_ _)) <;> (first | omega | (simp <;> omega)))⟩
set_option maxHeartbeats 1000000 in
theorem arraySortFits_any (a : Option Addr) (n c : Nat) (w : World) :
    Calls Try.prog 175 #[.slice a n c] w fun r w' => (∃ q : Bool, r = .returned (.bool q) ∧ q = true) ∧ Below w.heap.size w w' := by
  go_enter Try.func175, Try.ntmps175
  go_wp2_with fail
  go_ret
  exact ⟨⟨true, rfl, rfl⟩, (by (repeat' (first | assumption | exact Below.refl _ _ | refine Below.alloc ?_ ?_ _ | refine Below.setCell ?_ ?_ _ | refine Below.drew ?_ | refine below_drewN ?_ _)) <;> (first | omega | (simp <;> omega)))⟩
set_option maxHeartbeats 1000000 in
theorem numSortFits_any (m e : Int) (w : World) :
    Calls Try.prog 170 #[.agg #[.int .i64 m, .int .i64 e]] w fun r w' => (∃ q : Bool, r = .returned (.bool q) ∧ q = Dm.ok m e) ∧ Below w.heap.size w w' := by
  have hB0 := (Below.refl _ w).alloc (Nat.le_refl _) (.cells #[.int .i64 m, .int .i64 e] 124)
  go_enter Try.func170, Try.ntmps170
  go_wp2_with fail
  refine (iDecOk_any m e _).mono ?_
  rintro r w1 ⟨rfl, hb1⟩
  have hB1 := hB0.trans (hb1.mono hB0.size)
  go_wp2_with fail
  go_ret
  exact ⟨⟨_, rfl, rfl⟩, hB1⟩
set_option maxHeartbeats 1000000 in
theorem textSortFits_any (t : ByteArray) (w : World) (ht : t.size ≤ maxLen) :
    Calls Try.prog 172 #[.string t] w fun r w' => (∃ q : Bool, r = .returned (.bool q) ∧ q = decide (t.size ≤ 1500)) ∧ Below w.heap.size w w' := by
  go_enter Try.func172, Try.ntmps172
  go_wp2_with fail
  refine (shortText_any t w ht).mono ?_
  rintro r w1 ⟨rfl, rfl⟩
  go_wp2_with fail
  go_ret
  exact ⟨⟨_, rfl, rfl⟩, Below.refl _ _⟩
/-- what fits says, of a value of a sort -/
def FitOf (P : Bool → Prop) (s : Bool) (r : Ending) : Prop := ∃ q : Bool, r = .returned (.bool q) ∧ ((P false ∧ q = false) ∨ (P true ∧ q = s))
set_option maxRecDepth 100000 in
set_option maxHeartbeats 1000000 in
theorem fits_of {h g : Hd} {a ga : Option Addr} {n c gn gc T fid vid : Nat} {sv : Value} {P : Bool → Prop} (w : World) (hh : h.In w)
    (hs : ∀ W, Calls Try.prog 86 #[valV h a n c] W fun r w' => r = .returned (.iface T sv) ∧ Below W.heap.size W w')
    (he1 : ∀ args w, (callFunc fid args).run Try.prog w = .ok (.enter fid args) w) (he2 : ∀ args w, (callFunc vid args).run Try.prog w = .ok (.enter vid args) w)
    (hm1 : ∀ W', (method 282 T sv "loop.example/chancery/impl.fits").run Try.prog W' = .ok (fid, sv) W') (hm2 : ∀ W', (method 282 T sv "loop.example/chancery/impl.value").run Try.prog W' = .ok (vid, sv) W')
    (hfits : ∀ W', Below w.heap.size w W' → Calls Try.prog fid #[sv] W' fun r w' => (∃ q : Bool, r = .returned (.bool q) ∧ P q) ∧ Below W'.heap.size W' w')
    (hval : ∀ W', Calls Try.prog vid #[sv] W' fun r w' => r = .returned (valV g ga gn gc) ∧ Below W'.heap.size W' w') (hg : ∀ W', Below w.heap.size w W' → g.In W') :
    Calls Try.prog 65 #[valV h a n c] w fun r w' => FitOf P (headSameV h n g gn) r ∧ Below w.heap.size w w' := by
  have hB0 := (Below.refl _ w).alloc (Nat.le_refl _) (.cells #[.int .i64 h.k, .int .i64 h.m, .int .i64 h.e, .string h.t, .slice a n c, .slice h.na h.ns.length h.nc] 28)
  have X0 := BxV.new w h (.slice a n c) 28
  go_enter Try.func65, Try.ntmps65
  go_wp2_with fail
  refine (hs _).mono ?_
  rintro r w1 ⟨rfl, hb1⟩
  have hB1 := hB0.trans (hb1.mono hB0.size)
  have X1 := X0.below hb1
  clear X0 hB0 hb1 hs
  go_wp2_with fail
  refine ft2 (P := P) (P2 := fun q => q = headSameV h n g gn) X1 he1 he2 hm1 hm2 (fun W' hW => hfits W' (hB1.trans (hW.mono hB1.size))) (fun W' _ => hval W') (fun W' hW => ?_) (fun _ d _ _ _ h => by cases d <;> exact h) ?_
  · have hq := hB1.trans (hW.mono hB1.size)
    refine (sameHeadV_any h g a ga n c gn gc W' (hh.grow hq) (hg W' hq)).mono ?_
    rintro r w' ⟨rfl, hb'⟩
    exact ⟨⟨_, rfl, rfl⟩, hb'⟩
  · intro ws q v6 v7 v8 v9 v10 v11 v12 v13 v14 v15 v16 v17 hq hb2
    have hB2 := hB1.trans (hb2.mono hB1.size)
    have HQ : Hid ((P false ∧ q = false) ∨ (P true ∧ q = headSameV h n g gn)) := hq
    clear hq X1 he1 he2 hm1 hm2 hfits hval hg
    go_wp2_with fail
    go_ret
    exact ⟨⟨q, rfl, HQ.out⟩, hB2⟩
theorem headSame_true {h g : Hd} {n m : Nat} : headSameV h n g m = true ↔ h.same g ∧ n = m := by unfold headSameV; exact decide_eq_true_iff
theorem fitOf_says {P : Bool → Prop} {s : Bool} {p : Prop} (h1 : P false → ¬ p) (h2 : P true → (s = true ↔ p)) {r : Ending} (h : FitOf P s r) : SaysT p r := by
  obtain ⟨q, rfl, h⟩ := h
  rcases h with ⟨a, e⟩ | ⟨a, e⟩
  · rw [e]; exact ⟨false, rfl, fun e => (by cases e), fun e => absurd e (h1 a)⟩
  · rw [e]; exact ⟨s, rfl, h2 a⟩
theorem empty_in (k m e : Int) (t : ByteArray) (ht : t.size ≤ maxLen) (W : World) : Hd.In W ⟨k, m, e, t, none, 0, []⟩ := ⟨.inl rfl, ⟨Nat.le_refl _, by show 0 ≤ maxLen; omega⟩, ht⟩
theorem empty_size : (⟨#[]⟩ : ByteArray).size ≤ maxLen := by show 0 ≤ maxLen; omega
set_option maxRecDepth 100000 in
set_option maxHeartbeats 1000000 in
theorem fits_any (h : Hd) (a : Option Addr) (n c : Nat) (w : World) (hh : h.In w) :
    Calls Try.prog 65 #[valV h a n c] w fun r w' => SaysT (one h n) r ∧ Below w.heap.size w w' := by
  obtain ⟨k, m, e, t, na, nc, ns⟩ := h
  have ht : t.size ≤ maxLen := hh.2.2
  by_cases hk : 0 ≤ k ∧ k ≤ 6
  · have hc : k = 0 ∨ k = 1 ∨ k = 2 ∨ k = 3 ∨ k = 4 ∨ k = 5 ∨ k = 6 := by omega
    clear hk
    rcases hc with rfl | rfl | rfl | rfl | rfl | rfl | rfl
    · refine (fits_of (T := 122) w hh (fun W => sort_0 ⟨0, m, e, t, na, nc, ns⟩ a n c W rfl) (enters_of Try.func166 (by kernel_rfl) rfl) (enters_of Try.func167 (by kernel_rfl) rfl) (fun W' => by kernel_rfl) (fun W' => by kernel_rfl) (fun W' hW => nullSortFits_any W') (fun W' => nullSortValue_any W') (fun W' hW => empty_in _ _ _ _ empty_size W')).mono ?_
      rintro r w' ⟨hr, hb⟩
      exact ⟨fitOf_says (fun q => (by cases q)) (fun _ => by rw [headSame_true]; simp [one, Hd.same, and_assoc]) hr, hb⟩
    · refine (fits_of (T := 123) w hh (fun W => sort_1 ⟨1, m, e, t, na, nc, ns⟩ a n c W rfl) (enters_of Try.func168 (by kernel_rfl) rfl) (enters_of Try.func169 (by kernel_rfl) rfl) (fun W' => by kernel_rfl) (fun W' => by kernel_rfl) (fun W' hW => truthSortFits_any true W') (fun W' => truthSortValue_any true W') (fun W' hW => empty_in _ _ _ _ empty_size W')).mono ?_
      rintro r w' ⟨hr, hb⟩
      exact ⟨fitOf_says (fun q => (by cases q)) (fun _ => by rw [headSame_true]; simp [one, Hd.same, and_assoc]) hr, hb⟩
    · refine (fits_of (T := 123) w hh (fun W => sort_2 ⟨2, m, e, t, na, nc, ns⟩ a n c W rfl) (enters_of Try.func168 (by kernel_rfl) rfl) (enters_of Try.func169 (by kernel_rfl) rfl) (fun W' => by kernel_rfl) (fun W' => by kernel_rfl) (fun W' hW => truthSortFits_any false W') (fun W' => truthSortValue_any false W') (fun W' hW => empty_in _ _ _ _ empty_size W')).mono ?_
      rintro r w' ⟨hr, hb⟩
      exact ⟨fitOf_says (fun q => (by cases q)) (fun _ => by rw [headSame_true]; simp [one, Hd.same, and_assoc]) hr, hb⟩
    · refine (fits_of (T := 124) w hh (fun W => sort_3 ⟨3, m, e, t, na, nc, ns⟩ a n c W rfl) (enters_of Try.func170 (by kernel_rfl) rfl) (enters_of Try.func171 (by kernel_rfl) rfl) (fun W' => by kernel_rfl) (fun W' => by kernel_rfl) (fun W' hW => numSortFits_any m e W') (fun W' => numSortValue_any m e W') (fun W' hW => empty_in _ _ _ _ empty_size W')).mono ?_
      rintro r w' ⟨hr, hb⟩
      exact ⟨fitOf_says (fun q => by simp [one, ← q]) (fun q => by rw [headSame_true]; simp [one, Hd.same, and_assoc, ← q]) hr, hb⟩
    · refine (fits_of (T := 125) w hh (fun W => sort_4 ⟨4, m, e, t, na, nc, ns⟩ a n c W rfl) (enters_of Try.func172 (by kernel_rfl) rfl) (enters_of Try.func173 (by kernel_rfl) rfl) (fun W' => by kernel_rfl) (fun W' => by kernel_rfl) (fun W' hW => textSortFits_any t W' ht) (fun W' => textSortValue_any t W') (fun W' hW => empty_in _ _ _ _ ht W')).mono ?_
      rintro r w' ⟨hr, hb⟩
      exact ⟨fitOf_says (fun q => by have := of_decide_eq_false q.symm; simp [one]; intro x; omega) (fun q => by have := of_decide_eq_true q.symm; rw [headSame_true]; simp [one, Hd.same, and_assoc, this]) hr, hb⟩
    · refine (fits_of (T := 126) w hh (fun W => sort_5 ⟨5, m, e, t, na, nc, ns⟩ a n c W rfl) (enters_of Try.func175 (by kernel_rfl) rfl) (enters_of Try.func176 (by kernel_rfl) rfl) (fun W' => by kernel_rfl) (fun W' => by kernel_rfl) (fun W' hW => arraySortFits_any a n c W') (fun W' => arraySortValue_any a n c W') (fun W' hW => empty_in _ _ _ _ empty_size W')).mono ?_
      rintro r w' ⟨hr, hb⟩
      exact ⟨fitOf_says (fun q => (by cases q)) (fun _ => by rw [headSame_true]; simp [one, Hd.same, and_assoc]) hr, hb⟩
    · refine (fits_of (T := 91) w hh (fun W => sort_6 ⟨6, m, e, t, na, nc, ns⟩ a n c W rfl) (enters_of Try.func159 (by kernel_rfl) rfl) (enters_of Try.func70 (by kernel_rfl) rfl) (fun W' => by kernel_rfl) (fun W' => by kernel_rfl) (fun W' hW => objFits_any ns na nc a n c W' (hh.1.grow hW) hh.2.1.1 hh.2.1.2) (fun W' => objectSortValue_any na nc ns a n c W') (fun W' hW => ⟨hh.1.grow hW, hh.2.1, empty_size⟩)).mono ?_
      rintro r w' ⟨hr, hb⟩
      exact ⟨fitOf_says (fun q => by simp only [Bool.false_eq_true, false_iff] at q; simp [one]; intro x y; exact absurd ⟨x, y⟩ q) (fun q => by have hq := q.1 rfl; rw [headSame_true]; simp [one, Hd.same, and_assoc, hq.1]; intro _ _ _; have h2 := hq.2; rwa [hq.1] at h2) hr, hb⟩
  · have hno : ¬ one ⟨k, m, e, t, na, nc, ns⟩ n := by
      unfold one
      dsimp only
      intro h
      rcases h with ⟨h, _⟩ | ⟨h, _⟩ | ⟨h, _⟩ | ⟨h, _⟩ | ⟨h, _⟩ <;> omega
    have hB0 := (Below.refl _ w).alloc (Nat.le_refl _) (.cells #[.int .i64 k, .int .i64 m, .int .i64 e, .string t, .slice a n c, .slice na ns.length nc] 28)
    have HNO : Hid (¬ one ⟨k, m, e, t, na, nc, ns⟩ n) := hno
    clear hno
    go_enter Try.func65, Try.ntmps65
    go_wp2_with fail
    refine (sort_no ⟨k, m, e, t, na, nc, ns⟩ a n c _ hk).mono ?_
    rintro r w1 ⟨rfl, hb1⟩
    have hB1 := hB0.trans (hb1.mono hB0.size)
    go_wp2_with fail
    refine ft2n (fun _ d _ _ _ h => by cases d <;> exact h) ?_
    intro ws v6 v7 v8 v9 v10 v11 v12 v13 v14 v15 v16 v17 hb2
    have hB2 := hB1.trans (hb2.mono hB1.size)
    go_wp2_with fail
    go_ret
    exact ⟨⟨false, rfl, fun h => (by cases h), fun h => absurd h HNO.out⟩, hB2⟩
end Go.Proofs.Ytfgchdnpbbgmjaa
