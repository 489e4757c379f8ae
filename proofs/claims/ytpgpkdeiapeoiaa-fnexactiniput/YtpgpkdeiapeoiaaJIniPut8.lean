/- My own texts, joined: Xc OkA Xd Xe Xf. -/
import Derived.Test.YtpgpkdeiapeoiaaJIniPut7
import Derived.Test.YtpgpkdeiapeoiaaJIniPut4
import Derived.Test.YtpgpkdeiapeoiaaJIniPut6
import Derived.Test.YtpgpkdeiapeoiaaJIniPut0
import Derived.Deep.WholeRow
/- Values that are ok: the region that asks whether a value fits. -/
namespace Go.Proofs.Ytpgpkdeiapeoiaa
open Go.RowKit
set_option maxRecDepth 100000 in
set_option maxHeartbeats 1000000 in
theorem ft2n {Q : Exit → Act → World → Prop} {t0 t1 t2 t4 t5 t6 t7 t8 t9 t10 t11 t12 t13 t14 t15 t16 t17 : Value} {W : World}
    
    (hp : ∀ p d v a w, Q (.panic p) (Act.put a d v) w → Q (.panic p) a w) (h : ∀ ws v6 v7 v8 v9 v10 v11 v12 v13 v14 v15 v16 v17, Below W.heap.size W ws → Q .normal { tmps := (t0 :: t1 :: .bool false :: .nilIface :: t4 :: t5 :: v6 :: v7 :: v8 :: v9 :: v10 :: v11 :: v12 :: v13 :: v14 :: v15 :: v16 :: v17 :: []).toArray, defers := [] } ws) :
    Code.wp Try.prog (Code.region 2 #[{ dst := some 6, op := Op.move (Operand.tmp 3), type := 70, pos := "l7_value.go:102", after := #[], guard := none }, { dst := some 7, op := Op.binOp BinOp.neq 70 (Operand.tmp 6) (Operand.const Value.nilIface) 70, type := 4, pos := "l7_value.go:102", after := #[{ on := 0, ground := Ground.data }], guard := none }, { dst := some 8, op := Op.move (Operand.tmp 7), type := 4, pos := "l7_value.go:102", after := #[{ on := 1, ground := Ground.data }], guard := none }, { dst := some 9, op := Op.move (Operand.tmp 3), type := 70, pos := "l7_value.go:102", after := #[{ on := 2, ground := Ground.guard }], guard := some (2, true) }, { dst := some 10, op := Op.call { callee := Callee.invoke (Operand.tmp 9) "loop.example/chancery/impl.fits", args := #[], argTypes := #[] }, type := 4, pos := "l7_value.go:102", after := #[{ on := 3, ground := Ground.data }, { on := 2, ground := Ground.chain }, { on := 2, ground := Ground.guard }], guard := some (2, true) }, { dst := some 11, op := Op.pick (Operand.tmp 8) (Operand.tmp 10) (Operand.const (Value.bool false)), type := 4, pos := "l7_value.go:102", after := #[{ on := 2, ground := Ground.data }, { on := 4, ground := Ground.data }], guard := none }, { dst := some 12, op := Op.move (Operand.tmp 11), type := 4, pos := "l7_value.go:102", after := #[{ on := 5, ground := Ground.data }, { on := 4, ground := Ground.chain }], guard := none }, { dst := some 13, op := Op.load 33 (Operand.tmp 1), type := 33, pos := "l7_value.go:102", after := #[{ on := 6, ground := Ground.guard }], guard := some (6, true) }, { dst := some 14, op := Op.move (Operand.tmp 3), type := 70, pos := "l7_value.go:102", after := #[{ on := 6, ground := Ground.guard }], guard := some (6, true) }, { dst := some 15, op := Op.call { callee := Callee.invoke (Operand.tmp 14) "loop.example/chancery/impl.value", args := #[], argTypes := #[] }, type := 33, pos := "l7_value.go:102", after := #[{ on := 8, ground := Ground.data }, { on := 6, ground := Ground.chain }, { on := 6, ground := Ground.guard }], guard := some (6, true) }, { dst := some 16, op := Op.call { callee := Callee.value (Operand.func 66), args := #[Operand.tmp 13, Operand.tmp 15], argTypes := #[33, 33] }, type := 4, pos := "l7_value.go:102", after := #[{ on := 7, ground := Ground.data }, { on := 9, ground := Ground.data }, { on := 9, ground := Ground.chain }, { on := 6, ground := Ground.guard }], guard := some (6, true) }, { dst := some 17, op := Op.pick (Operand.tmp 12) (Operand.tmp 16) (Operand.const (Value.bool false)), type := 4, pos := "l7_value.go:102", after := #[{ on := 6, ground := Ground.data }, { on := 10, ground := Ground.data }], guard := none }, { dst := some 2, op := Op.assign (Operand.tmp 17), type := 4, pos := "l7_value.go:102", after := #[{ on := 11, ground := Ground.data }, { on := 10, ground := Ground.chain }, { on := 0, ground := Ground.phase }, { on := 1, ground := Ground.phase }, { on := 2, ground := Ground.phase }, { on := 3, ground := Ground.phase }, { on := 4, ground := Ground.phase }, { on := 5, ground := Ground.phase }, { on := 6, ground := Ground.phase }, { on := 7, ground := Ground.phase }, { on := 8, ground := Ground.phase }, { on := 9, ground := Ground.phase }, { on := 10, ground := Ground.phase }, { on := 11, ground := Ground.phase }], guard := none }] true) Q { tmps := (t0 :: t1 :: t2 :: .nilIface :: t4 :: t5 :: t6 :: t7 :: t8 :: t9 :: t10 :: t11 :: t12 :: t13 :: t14 :: t15 :: t16 :: t17 :: []).toArray, defers := [] } W := by
  refine wp_region_held_drew (S := fun _ => True) (by kernel_rfl) trivial (fun hHeld => ?_)
  refine wpAnyH_take (i := 0) (v := .nilIface) rfl (by kernel_rfl) (by kernel_rfl) (by kernel_rfl) (fun _ _ _ h => hp _ _ _ _ _ h) (Or.inl ⟨by rfl, ?_⟩) (by assumption) ?_
  · intro w hSw
    (try dsimp only at hSw)
    go_simp
  (try simp only [Act.put, List.getElem_toArray, List.getElem_cons_zero, List.setIfInBounds_toArray, List.set_cons_zero, List.set_cons_succ])
  refine wpAnyH_take (i := 1) (v := .bool false) rfl (by kernel_rfl) (by kernel_rfl) (by kernel_rfl) (fun _ _ _ h => hp _ _ _ _ _ h) (Or.inl ⟨by rfl, ?_⟩) (by assumption) ?_
  · intro w hSw
    (try dsimp only at hSw)
    go_simp
  (try simp only [Act.put, List.getElem_toArray, List.getElem_cons_zero, List.getElem_cons_succ, List.setIfInBounds_toArray, List.set_cons_zero, List.set_cons_succ])
  refine wpAnyH_take (i := 2) (v := .bool false) rfl (by kernel_rfl) (by kernel_rfl) (by kernel_rfl) (fun _ _ _ h => hp _ _ _ _ _ h) (Or.inl ⟨by rfl, ?_⟩) (by assumption) ?_
  · intro w hSw
    (try dsimp only at hSw)
    go_simp
  (try simp only [Act.put, List.getElem_toArray, List.getElem_cons_zero, List.getElem_cons_succ, List.setIfInBounds_toArray, List.set_cons_zero, List.set_cons_succ])
  refine wpAnyH_take (i := 3) (v := undef) rfl (by kernel_rfl) (by kernel_rfl) (by kernel_rfl) (fun _ _ _ h => hp _ _ _ _ _ h) (Or.inr ⟨by rfl, rfl⟩) (by assumption) ?_
  (try simp only [Act.put, List.getElem_toArray, List.getElem_cons_zero, List.getElem_cons_succ, List.setIfInBounds_toArray, List.set_cons_zero, List.set_cons_succ])
  refine wpAnyH_take (i := 4) (v := undef) rfl (by kernel_rfl) (by kernel_rfl) (by kernel_rfl) (fun _ _ _ h => hp _ _ _ _ _ h) (Or.inr ⟨by rfl, rfl⟩) (by assumption) ?_
  (try simp only [Act.put, List.getElem_toArray, List.getElem_cons_zero, List.getElem_cons_succ, List.setIfInBounds_toArray, List.set_cons_zero, List.set_cons_succ])
  refine wpAnyH_take (i := 5) (v := .bool false) rfl (by kernel_rfl) (by kernel_rfl) (by kernel_rfl) (fun _ _ _ h => hp _ _ _ _ _ h) (Or.inl ⟨by rfl, ?_⟩) (by assumption) ?_
  · intro w hSw
    (try dsimp only at hSw)
    go_simp
  (try simp only [Act.put, List.getElem_toArray, List.getElem_cons_zero, List.getElem_cons_succ, List.setIfInBounds_toArray, List.set_cons_zero, List.set_cons_succ])
  refine wpAnyH_take (i := 6) (v := .bool false) rfl (by kernel_rfl) (by kernel_rfl) (by kernel_rfl) (fun _ _ _ h => hp _ _ _ _ _ h) (Or.inl ⟨by rfl, ?_⟩) (by assumption) ?_
  · intro w hSw
    (try dsimp only at hSw)
    go_simp
  (try simp only [Act.put, List.getElem_toArray, List.getElem_cons_zero, List.getElem_cons_succ, List.setIfInBounds_toArray, List.set_cons_zero, List.set_cons_succ])
  refine wpAnyH_take (i := 7) (v := undef) rfl (by kernel_rfl) (by kernel_rfl) (by kernel_rfl) (fun _ _ _ h => hp _ _ _ _ _ h) (Or.inr ⟨by rfl, rfl⟩) (by assumption) ?_
  (try simp only [Act.put, List.getElem_toArray, List.getElem_cons_zero, List.getElem_cons_succ, List.setIfInBounds_toArray, List.set_cons_zero, List.set_cons_succ])
  refine wpAnyH_take (i := 8) (v := undef) rfl (by kernel_rfl) (by kernel_rfl) (by kernel_rfl) (fun _ _ _ h => hp _ _ _ _ _ h) (Or.inr ⟨by rfl, rfl⟩) (by assumption) ?_
  (try simp only [Act.put, List.getElem_toArray, List.getElem_cons_zero, List.getElem_cons_succ, List.setIfInBounds_toArray, List.set_cons_zero, List.set_cons_succ])
  refine wpAnyH_take (i := 9) (v := undef) rfl (by kernel_rfl) (by kernel_rfl) (by kernel_rfl) (fun _ _ _ h => hp _ _ _ _ _ h) (Or.inr ⟨by rfl, rfl⟩) (by assumption) ?_
  (try simp only [Act.put, List.getElem_toArray, List.getElem_cons_zero, List.getElem_cons_succ, List.setIfInBounds_toArray, List.set_cons_zero, List.set_cons_succ])
  refine wpAnyH_take (i := 10) (v := undef) rfl (by kernel_rfl) (by kernel_rfl) (by kernel_rfl) (fun _ _ _ h => hp _ _ _ _ _ h) (Or.inr ⟨by rfl, rfl⟩) (by assumption) ?_
  (try simp only [Act.put, List.getElem_toArray, List.getElem_cons_zero, List.getElem_cons_succ, List.setIfInBounds_toArray, List.set_cons_zero, List.set_cons_succ])
  refine wpAnyH_take (i := 11) (v := .bool false) rfl (by kernel_rfl) (by kernel_rfl) (by kernel_rfl) (fun _ _ _ h => hp _ _ _ _ _ h) (Or.inl ⟨by rfl, ?_⟩) (by assumption) ?_
  · intro w hSw
    (try dsimp only at hSw)
    go_simp
  (try simp only [Act.put, List.getElem_toArray, List.getElem_cons_zero, List.getElem_cons_succ, List.setIfInBounds_toArray, List.set_cons_zero, List.set_cons_succ])
  refine wpAnyH_take (i := 12) (v := .bool false) rfl (by kernel_rfl) (by kernel_rfl) (by kernel_rfl) (fun _ _ _ h => hp _ _ _ _ _ h) (Or.inl ⟨by rfl, ?_⟩) (by assumption) ?_
  · intro w hSw
    (try dsimp only at hSw)
    go_simp
  (try simp only [Act.put, List.getElem_toArray, List.getElem_cons_zero, List.getElem_cons_succ, List.setIfInBounds_toArray, List.set_cons_zero, List.set_cons_succ])
  refine wpAnyH_done (by kernel_rfl) ?_ _
  exact h _ _ _ _ _ _ _ _ _ _ _ _ _ ((Below.refl W.heap.size W).drew)
set_option maxRecDepth 100000 in
set_option maxHeartbeats 1000000 in
theorem ft2 {Q : Exit → Act → World → Prop} {t0 t2 t4 t5 t6 t7 t8 t9 t10 t11 t12 t13 t14 t15 t16 t17 : Value} {W : World} {b n c gn gc : Nat} {hd g : Hd} {a ga : Option Addr} {T fid vid : Nat} {sv : Value} {P P2 : Bool → Prop}
    (hX : BxV b hd (.slice a n c) W) (he1 : ∀ args w, (callFunc fid args).run Try.prog w = .ok (.enter fid args) w) (he2 : ∀ args w, (callFunc vid args).run Try.prog w = .ok (.enter vid args) w) (hm1 : ∀ W', (method 233 T sv "loop.example/chancery/impl.fits").run Try.prog W' = .ok (fid, sv) W') (hm2 : ∀ W', (method 233 T sv "loop.example/chancery/impl.value").run Try.prog W' = .ok (vid, sv) W') (hfits : ∀ W', Below W.heap.size W W' → Calls Try.prog fid #[sv] W' fun r w' => (∃ q : Bool, r = .returned (.bool q) ∧ P q) ∧ Below W'.heap.size W' w') (hval : ∀ W', Below W.heap.size W W' → Calls Try.prog vid #[sv] W' fun r w' => r = .returned (valV g ga gn gc) ∧ Below W'.heap.size W' w') (hsame : ∀ W', Below W.heap.size W W' → Calls Try.prog 66 #[valV hd a n c, valV g ga gn gc] W' fun r w' => (∃ q : Bool, r = .returned (.bool q) ∧ P2 q) ∧ Below W'.heap.size W' w')
    (hp : ∀ p d v a w, Q (.panic p) (Act.put a d v) w → Q (.panic p) a w) (h : ∀ ws q v6 v7 v8 v9 v10 v11 v12 v13 v14 v15 v16 v17, ((P false ∧ q = false) ∨ (P true ∧ P2 q)) → Below W.heap.size W ws → Q .normal { tmps := (t0 :: .pointer (some ⟨b, 0, none⟩) :: .bool q :: (.iface T sv) :: t4 :: t5 :: v6 :: v7 :: v8 :: v9 :: v10 :: v11 :: v12 :: v13 :: v14 :: v15 :: v16 :: v17 :: []).toArray, defers := [] } ws) :
    Code.wp Try.prog (Code.region 2 #[{ dst := some 6, op := Op.move (Operand.tmp 3), type := 70, pos := "l7_value.go:102", after := #[], guard := none }, { dst := some 7, op := Op.binOp BinOp.neq 70 (Operand.tmp 6) (Operand.const Value.nilIface) 70, type := 4, pos := "l7_value.go:102", after := #[{ on := 0, ground := Ground.data }], guard := none }, { dst := some 8, op := Op.move (Operand.tmp 7), type := 4, pos := "l7_value.go:102", after := #[{ on := 1, ground := Ground.data }], guard := none }, { dst := some 9, op := Op.move (Operand.tmp 3), type := 70, pos := "l7_value.go:102", after := #[{ on := 2, ground := Ground.guard }], guard := some (2, true) }, { dst := some 10, op := Op.call { callee := Callee.invoke (Operand.tmp 9) "loop.example/chancery/impl.fits", args := #[], argTypes := #[] }, type := 4, pos := "l7_value.go:102", after := #[{ on := 3, ground := Ground.data }, { on := 2, ground := Ground.chain }, { on := 2, ground := Ground.guard }], guard := some (2, true) }, { dst := some 11, op := Op.pick (Operand.tmp 8) (Operand.tmp 10) (Operand.const (Value.bool false)), type := 4, pos := "l7_value.go:102", after := #[{ on := 2, ground := Ground.data }, { on := 4, ground := Ground.data }], guard := none }, { dst := some 12, op := Op.move (Operand.tmp 11), type := 4, pos := "l7_value.go:102", after := #[{ on := 5, ground := Ground.data }, { on := 4, ground := Ground.chain }], guard := none }, { dst := some 13, op := Op.load 33 (Operand.tmp 1), type := 33, pos := "l7_value.go:102", after := #[{ on := 6, ground := Ground.guard }], guard := some (6, true) }, { dst := some 14, op := Op.move (Operand.tmp 3), type := 70, pos := "l7_value.go:102", after := #[{ on := 6, ground := Ground.guard }], guard := some (6, true) }, { dst := some 15, op := Op.call { callee := Callee.invoke (Operand.tmp 14) "loop.example/chancery/impl.value", args := #[], argTypes := #[] }, type := 33, pos := "l7_value.go:102", after := #[{ on := 8, ground := Ground.data }, { on := 6, ground := Ground.chain }, { on := 6, ground := Ground.guard }], guard := some (6, true) }, { dst := some 16, op := Op.call { callee := Callee.value (Operand.func 66), args := #[Operand.tmp 13, Operand.tmp 15], argTypes := #[33, 33] }, type := 4, pos := "l7_value.go:102", after := #[{ on := 7, ground := Ground.data }, { on := 9, ground := Ground.data }, { on := 9, ground := Ground.chain }, { on := 6, ground := Ground.guard }], guard := some (6, true) }, { dst := some 17, op := Op.pick (Operand.tmp 12) (Operand.tmp 16) (Operand.const (Value.bool false)), type := 4, pos := "l7_value.go:102", after := #[{ on := 6, ground := Ground.data }, { on := 10, ground := Ground.data }], guard := none }, { dst := some 2, op := Op.assign (Operand.tmp 17), type := 4, pos := "l7_value.go:102", after := #[{ on := 11, ground := Ground.data }, { on := 10, ground := Ground.chain }, { on := 0, ground := Ground.phase }, { on := 1, ground := Ground.phase }, { on := 2, ground := Ground.phase }, { on := 3, ground := Ground.phase }, { on := 4, ground := Ground.phase }, { on := 5, ground := Ground.phase }, { on := 6, ground := Ground.phase }, { on := 7, ground := Ground.phase }, { on := 8, ground := Ground.phase }, { on := 9, ground := Ground.phase }, { on := 10, ground := Ground.phase }, { on := 11, ground := Ground.phase }], guard := none }] true) Q { tmps := (t0 :: .pointer (some ⟨b, 0, none⟩) :: t2 :: (.iface T sv) :: t4 :: t5 :: t6 :: t7 :: t8 :: t9 :: t10 :: t11 :: t12 :: t13 :: t14 :: t15 :: t16 :: t17 :: []).toArray, defers := [] } W := by
  have HSof : Hid (∀ w', Below W.heap.size W w' → BxV b hd (.slice a n c) w') := fun w' h => hX.below h
  have hS0 := HSof.out _ ((Below.refl _ W).drew)
  have hB0 := (Below.refl W.heap.size W).drew
  clear hX
  refine wp_region_held_drew (S := fun w' => BxV b hd (.slice a n c) w') (by kernel_rfl) hS0 (fun hHeld => ?_)
  refine wpAnyH_take (i := 0) (v := .iface T sv) rfl (by kernel_rfl) (by kernel_rfl) (by kernel_rfl) (fun _ _ _ h => hp _ _ _ _ _ h) (Or.inl ⟨by rfl, ?_⟩) (by assumption) ?_
  · intro w hSw
    (try dsimp only at hSw)
    go_simp
  (try simp only [Act.put, List.getElem_toArray, List.getElem_cons_zero, List.setIfInBounds_toArray, List.set_cons_zero, List.set_cons_succ])
  refine wpAnyH_take (i := 1) (v := .bool true) rfl (by kernel_rfl) (by kernel_rfl) (by kernel_rfl) (fun _ _ _ h => hp _ _ _ _ _ h) (Or.inl ⟨by rfl, ?_⟩) (by assumption) ?_
  · intro w hSw
    (try dsimp only at hSw)
    go_simp
  (try simp only [Act.put, List.getElem_toArray, List.getElem_cons_zero, List.getElem_cons_succ, List.setIfInBounds_toArray, List.set_cons_zero, List.set_cons_succ])
  refine wpAnyH_take (i := 2) (v := .bool true) rfl (by kernel_rfl) (by kernel_rfl) (by kernel_rfl) (fun _ _ _ h => hp _ _ _ _ _ h) (Or.inl ⟨by rfl, ?_⟩) (by assumption) ?_
  · intro w hSw
    (try dsimp only at hSw)
    go_simp
  (try simp only [Act.put, List.getElem_toArray, List.getElem_cons_zero, List.getElem_cons_succ, List.setIfInBounds_toArray, List.set_cons_zero, List.set_cons_succ])
  refine wpAnyH_take (i := 3) (v := .iface T sv) rfl (by kernel_rfl) (by kernel_rfl) (by kernel_rfl) (fun _ _ _ h => hp _ _ _ _ _ h) (Or.inl ⟨by rfl, ?_⟩) (by assumption) ?_
  · intro w hSw
    (try dsimp only at hSw)
    go_simp
  (try simp only [Act.put, List.getElem_toArray, List.getElem_cons_zero, List.getElem_cons_succ, List.setIfInBounds_toArray, List.set_cons_zero, List.set_cons_succ])
  refine wpAnyH_ready (rs := [4]) (by kernel_rfl) (by simp) ?_
  refine AllReadyH.cons rfl (fun K hK => ?_) AllReadyH.nil
  rw [if_pos (by rfl)]
  go_simp
  refine (hfits _ hB0).mono ?_
  rintro r w1 ⟨⟨q1, rfl, hq1⟩, hb1⟩
  have hB1 := hB0.trans (hb1.mono hB0.size)
  have HQ1 : Hid (P q1) := hq1
  clear hq1
  go_wp2_with fail
  refine hK.out _ _ (HSof.out _ hB1) (fun hHeld => ?_)
  clear hK K hb1 hB0 hfits
  cases q1
  · refine wpAnyH_take (i := 5) (v := .bool false) rfl (by kernel_rfl) (by kernel_rfl) (by kernel_rfl) (fun _ _ _ h => hp _ _ _ _ _ h) (Or.inl ⟨by rfl, ?_⟩) (by assumption) ?_
    · intro w hSw
      (try dsimp only at hSw)
      go_simp
    (try simp only [Act.put, List.getElem_toArray, List.getElem_cons_zero, List.getElem_cons_succ, List.setIfInBounds_toArray, List.set_cons_zero, List.set_cons_succ])
    refine wpAnyH_take (i := 6) (v := .bool false) rfl (by kernel_rfl) (by kernel_rfl) (by kernel_rfl) (fun _ _ _ h => hp _ _ _ _ _ h) (Or.inl ⟨by rfl, ?_⟩) (by assumption) ?_
    · intro w hSw
      (try dsimp only at hSw)
      go_simp
    (try simp only [Act.put, List.getElem_toArray, List.getElem_cons_zero, List.getElem_cons_succ, List.setIfInBounds_toArray, List.set_cons_zero, List.set_cons_succ])
    refine wpAnyH_take (i := 7) (v := undef) rfl (by kernel_rfl) (by kernel_rfl) (by kernel_rfl) (fun _ _ _ h => hp _ _ _ _ _ h) (Or.inr ⟨by rfl, rfl⟩) (by assumption) ?_
    (try simp only [Act.put, List.getElem_toArray, List.getElem_cons_zero, List.getElem_cons_succ, List.setIfInBounds_toArray, List.set_cons_zero, List.set_cons_succ])
    refine wpAnyH_take (i := 8) (v := undef) rfl (by kernel_rfl) (by kernel_rfl) (by kernel_rfl) (fun _ _ _ h => hp _ _ _ _ _ h) (Or.inr ⟨by rfl, rfl⟩) (by assumption) ?_
    (try simp only [Act.put, List.getElem_toArray, List.getElem_cons_zero, List.getElem_cons_succ, List.setIfInBounds_toArray, List.set_cons_zero, List.set_cons_succ])
    refine wpAnyH_take (i := 9) (v := undef) rfl (by kernel_rfl) (by kernel_rfl) (by kernel_rfl) (fun _ _ _ h => hp _ _ _ _ _ h) (Or.inr ⟨by rfl, rfl⟩) (by assumption) ?_
    (try simp only [Act.put, List.getElem_toArray, List.getElem_cons_zero, List.getElem_cons_succ, List.setIfInBounds_toArray, List.set_cons_zero, List.set_cons_succ])
    refine wpAnyH_take (i := 10) (v := undef) rfl (by kernel_rfl) (by kernel_rfl) (by kernel_rfl) (fun _ _ _ h => hp _ _ _ _ _ h) (Or.inr ⟨by rfl, rfl⟩) (by assumption) ?_
    (try simp only [Act.put, List.getElem_toArray, List.getElem_cons_zero, List.getElem_cons_succ, List.setIfInBounds_toArray, List.set_cons_zero, List.set_cons_succ])
    refine wpAnyH_take (i := 11) (v := .bool false) rfl (by kernel_rfl) (by kernel_rfl) (by kernel_rfl) (fun _ _ _ h => hp _ _ _ _ _ h) (Or.inl ⟨by rfl, ?_⟩) (by assumption) ?_
    · intro w hSw
      (try dsimp only at hSw)
      go_simp
    (try simp only [Act.put, List.getElem_toArray, List.getElem_cons_zero, List.getElem_cons_succ, List.setIfInBounds_toArray, List.set_cons_zero, List.set_cons_succ])
    refine wpAnyH_take (i := 12) (v := .bool false) rfl (by kernel_rfl) (by kernel_rfl) (by kernel_rfl) (fun _ _ _ h => hp _ _ _ _ _ h) (Or.inl ⟨by rfl, ?_⟩) (by assumption) ?_
    · intro w hSw
      (try dsimp only at hSw)
      go_simp
    (try simp only [Act.put, List.getElem_toArray, List.getElem_cons_zero, List.getElem_cons_succ, List.setIfInBounds_toArray, List.set_cons_zero, List.set_cons_succ])
    refine wpAnyH_done (by kernel_rfl) ?_ _
    exact h _ _ _ _ _ _ _ _ _ _ _ _ _ _ (.inl ⟨HQ1.out, rfl⟩) hB1
  · refine wpAnyH_take (i := 5) (v := .bool true) rfl (by kernel_rfl) (by kernel_rfl) (by kernel_rfl) (fun _ _ _ h => hp _ _ _ _ _ h) (Or.inl ⟨by rfl, ?_⟩) (by assumption) ?_
    · intro w hSw
      (try dsimp only at hSw)
      go_simp
    (try simp only [Act.put, List.getElem_toArray, List.getElem_cons_zero, List.getElem_cons_succ, List.setIfInBounds_toArray, List.set_cons_zero, List.set_cons_succ])
    refine wpAnyH_take (i := 6) (v := .bool true) rfl (by kernel_rfl) (by kernel_rfl) (by kernel_rfl) (fun _ _ _ h => hp _ _ _ _ _ h) (Or.inl ⟨by rfl, ?_⟩) (by assumption) ?_
    · intro w hSw
      (try dsimp only at hSw)
      go_simp
    (try simp only [Act.put, List.getElem_toArray, List.getElem_cons_zero, List.getElem_cons_succ, List.setIfInBounds_toArray, List.set_cons_zero, List.set_cons_succ])
    refine wpAnyH_take (i := 7) (v := valV hd a n c) rfl (by kernel_rfl) (by kernel_rfl) (by kernel_rfl) (fun _ _ _ h => hp _ _ _ _ _ h) (Or.inl ⟨by rfl, ?_⟩) (by assumption) ?_
    · intro w hSw
      (try dsimp only at hSw)
      go_simp
    (try simp only [Act.put, List.getElem_toArray, List.getElem_cons_zero, List.getElem_cons_succ, List.setIfInBounds_toArray, List.set_cons_zero, List.set_cons_succ])
    refine wpAnyH_take (i := 8) (v := .iface T sv) rfl (by kernel_rfl) (by kernel_rfl) (by kernel_rfl) (fun _ _ _ h => hp _ _ _ _ _ h) (Or.inl ⟨by rfl, ?_⟩) (by assumption) ?_
    · intro w hSw
      (try dsimp only at hSw)
      go_simp
    (try simp only [Act.put, List.getElem_toArray, List.getElem_cons_zero, List.getElem_cons_succ, List.setIfInBounds_toArray, List.set_cons_zero, List.set_cons_succ])
    refine wpAnyH_ready (rs := [9]) (by kernel_rfl) (by simp) ?_
    refine AllReadyH.cons rfl (fun K hK => ?_) AllReadyH.nil
    rw [if_pos (by rfl)]
    go_simp
    refine (hval _ hB1).mono ?_
    rintro r w2 ⟨rfl, hb2⟩
    have hB2 := hB1.trans (hb2.mono hB1.size)
    go_wp2_with fail
    refine hK.out _ _ (HSof.out _ hB2) (fun hHeld => ?_)
    clear hK K hb2 hB1 hval
    refine wpAnyH_ready (rs := [10]) (by kernel_rfl) (by simp) ?_
    refine AllReadyH.cons rfl (fun K hK => ?_) AllReadyH.nil
    rw [if_pos (by rfl)]
    go_simp
    refine (hsame _ hB2).mono ?_
    rintro r w3 ⟨⟨q2, rfl, hq2⟩, hb3⟩
    have hB3 := hB2.trans (hb3.mono hB2.size)
    have HQ2 : Hid (P2 q2) := hq2
    clear hq2
    go_wp2_with fail
    refine hK.out _ _ (HSof.out _ hB3) (fun hHeld => ?_)
    clear hK K hb3 hB2 hsame
    refine wpAnyH_take (i := 11) (v := .bool q2) rfl (by kernel_rfl) (by kernel_rfl) (by kernel_rfl) (fun _ _ _ h => hp _ _ _ _ _ h) (Or.inl ⟨by rfl, ?_⟩) (by assumption) ?_
    · intro w hSw
      (try dsimp only at hSw)
      go_simp
    (try simp only [Act.put, List.getElem_toArray, List.getElem_cons_zero, List.getElem_cons_succ, List.setIfInBounds_toArray, List.set_cons_zero, List.set_cons_succ])
    refine wpAnyH_take (i := 12) (v := .bool q2) rfl (by kernel_rfl) (by kernel_rfl) (by kernel_rfl) (fun _ _ _ h => hp _ _ _ _ _ h) (Or.inl ⟨by rfl, ?_⟩) (by assumption) ?_
    · intro w hSw
      (try dsimp only at hSw)
      go_simp
    (try simp only [Act.put, List.getElem_toArray, List.getElem_cons_zero, List.getElem_cons_succ, List.setIfInBounds_toArray, List.set_cons_zero, List.set_cons_succ])
    refine wpAnyH_done (by kernel_rfl) ?_ _
    exact h _ _ _ _ _ _ _ _ _ _ _ _ _ _ (.inr ⟨HQ1.out, HQ2.out⟩) hB3
end Go.Proofs.Ytpgpkdeiapeoiaa
/- Contracts for trees that are ok: the texts, the counts. -/
namespace Go.Proofs.Ytpgpkdeiapeoiaa
open Go.RowKit

theorem has_mem {L : List (List UInt8)} {l : List UInt8} (h : Qm.has L l = true) : l ∈ L := by
  induction L with
  | nil => cases h
  | cons x t ih =>
    simp only [Qm.has, Bool.or_eq_true, beq_iff_eq] at h
    rcases h with h | h
    · subst h; simp
    · exact List.mem_cons_of_mem _ (ih h)

/-- how many a function is given, or -1 -/
def stdOr (l : List UInt8) : Int := if Om.std l = 0 then -1 else (Om.std l : Int)
set_option maxHeartbeats 400000 in
theorem shortText_any (s : ByteArray) (w : World) (hs : s.size ≤ maxLen) :
    Calls Try.prog 119 #[.string s] w fun e w' => e = .returned (.bool (decide (s.size ≤ 1500))) ∧ w' = w := by
  unfold maxLen at hs
  go_enter Try.func119, Try.ntmps119
  go_wp2_with fail
  go_ret
  exact ⟨lret_bool (by rw [Bool.eq_iff_iff]; first | (simp; done) | (simp; omega)), rfl⟩

end Go.Proofs.Ytpgpkdeiapeoiaa
/- Values that are ok: whether a value fits, by the program. -/
namespace Go.Proofs.Ytpgpkdeiapeoiaa
open Go.RowKit
/-- a value has just what its kind has; so many values are right in it -/
def one (h : Hd) (n : Nat) : Prop :=
  ((h.k = 0 ∨ h.k = 1 ∨ h.k = 2) ∧ ((h.m = 0 ∧ h.e = 0 ∧ h.t = ⟨#[]⟩) ∧ h.ns = []) ∧ n = 0) ∨
  (h.k = 3 ∧ Dm.ok h.m h.e = true ∧ (h.t = ⟨#[]⟩ ∧ h.ns = []) ∧ n = 0) ∨
  (h.k = 4 ∧ h.t.size ≤ 1500 ∧ (h.m = 0 ∧ h.e = 0 ∧ h.ns = []) ∧ n = 0) ∨
  (h.k = 5 ∧ (h.m = 0 ∧ h.e = 0 ∧ h.t = ⟨#[]⟩) ∧ h.ns = []) ∨
  (h.k = 6 ∧ (h.ns.length = n ∧ nmAsc h.ns h.ns.length) ∧ h.m = 0 ∧ h.e = 0 ∧ h.t = ⟨#[]⟩)
set_option maxHeartbeats 1000000 in
theorem sort_0 (h : Hd) (a : Option Addr) (n c : Nat) (w : World) (hk : h.k = 0) :
    Calls Try.prog 47 #[valV h a n c] w fun r w' => r = .returned (.iface 73 (.agg #[])) ∧ Below w.heap.size w w' := by
  obtain ⟨k, m, e, t, na, nc, ns⟩ := h
  dsimp only at hk
  subst hk
  go_enter Try.func47, Try.ntmps47
  go_wp2_with fail
  go_ret
  exact ⟨rfl, (Below.refl _ w).alloc (Nat.le_refl _) _⟩
set_option maxHeartbeats 1000000 in
theorem sort_1 (h : Hd) (a : Option Addr) (n c : Nat) (w : World) (hk : h.k = 1) :
    Calls Try.prog 47 #[valV h a n c] w fun r w' => r = .returned (.iface 78 (.bool true)) ∧ Below w.heap.size w w' := by
  obtain ⟨k, m, e, t, na, nc, ns⟩ := h
  dsimp only at hk
  subst hk
  go_enter Try.func47, Try.ntmps47
  go_wp2_with fail
  go_ret
  exact ⟨rfl, (Below.refl _ w).alloc (Nat.le_refl _) _⟩
set_option maxHeartbeats 1000000 in
theorem sort_2 (h : Hd) (a : Option Addr) (n c : Nat) (w : World) (hk : h.k = 2) :
    Calls Try.prog 47 #[valV h a n c] w fun r w' => r = .returned (.iface 78 (.bool false)) ∧ Below w.heap.size w w' := by
  obtain ⟨k, m, e, t, na, nc, ns⟩ := h
  dsimp only at hk
  subst hk
  go_enter Try.func47, Try.ntmps47
  go_wp2_with fail
  go_ret
  exact ⟨rfl, (Below.refl _ w).alloc (Nat.le_refl _) _⟩
set_option maxHeartbeats 1000000 in
theorem sort_3 (h : Hd) (a : Option Addr) (n c : Nat) (w : World) (hk : h.k = 3) :
    Calls Try.prog 47 #[valV h a n c] w fun r w' => r = .returned (.iface 79 (.agg #[.int .i64 h.m, .int .i64 h.e])) ∧ Below w.heap.size w w' := by
  obtain ⟨k, m, e, t, na, nc, ns⟩ := h
  dsimp only at hk
  subst hk
  go_enter Try.func47, Try.ntmps47
  go_wp2_with fail
  go_ret
  exact ⟨rfl, (Below.refl _ w).alloc (Nat.le_refl _) _⟩
set_option maxHeartbeats 1000000 in
theorem sort_4 (h : Hd) (a : Option Addr) (n c : Nat) (w : World) (hk : h.k = 4) :
    Calls Try.prog 47 #[valV h a n c] w fun r w' => r = .returned (.iface 80 (.string h.t)) ∧ Below w.heap.size w w' := by
  obtain ⟨k, m, e, t, na, nc, ns⟩ := h
  dsimp only at hk
  subst hk
  go_enter Try.func47, Try.ntmps47
  go_wp2_with fail
  go_ret
  exact ⟨rfl, (Below.refl _ w).alloc (Nat.le_refl _) _⟩
set_option maxHeartbeats 1000000 in
theorem sort_5 (h : Hd) (a : Option Addr) (n c : Nat) (w : World) (hk : h.k = 5) :
    Calls Try.prog 47 #[valV h a n c] w fun r w' => r = .returned (.iface 81 (.slice a n c)) ∧ Below w.heap.size w w' := by
  obtain ⟨k, m, e, t, na, nc, ns⟩ := h
  dsimp only at hk
  subst hk
  go_enter Try.func47, Try.ntmps47
  go_wp2_with fail
  go_ret
  exact ⟨rfl, (Below.refl _ w).alloc (Nat.le_refl _) _⟩
set_option maxHeartbeats 1000000 in
theorem sort_6 (h : Hd) (a : Option Addr) (n c : Nat) (w : World) (hk : h.k = 6) :
    Calls Try.prog 47 #[valV h a n c] w fun r w' => r = .returned (.iface 84 (.agg #[.slice h.na h.ns.length h.nc, .slice a n c])) ∧ Below w.heap.size w w' := by
  obtain ⟨k, m, e, t, na, nc, ns⟩ := h
  dsimp only at hk
  subst hk
  go_enter Try.func47, Try.ntmps47
  go_wp2_with fail
  go_ret
  exact ⟨rfl, (Below.refl _ w).alloc (Nat.le_refl _) _⟩
set_option maxHeartbeats 1000000 in
theorem sort_no (h : Hd) (a : Option Addr) (n c : Nat) (w : World) (hk : ¬ (0 ≤ h.k ∧ h.k ≤ 6)) :
    Calls Try.prog 47 #[valV h a n c] w fun r w' => r = .returned .nilIface ∧ Below w.heap.size w w' := by
  obtain ⟨k, m, e, t, na, nc, ns⟩ := h
  dsimp only at hk
  have h0 : (k == 0) = false := by simp; omega
  have h1 : (k == 1) = false := by simp; omega
  have h2 : (k == 2) = false := by simp; omega
  have h3 : (k == 3) = false := by simp; omega
  have h4 : (k == 4) = false := by simp; omega
  have h5 : (k == 5) = false := by simp; omega
  have h6 : (k == 6) = false := by simp; omega
  go_enter Try.func47, Try.ntmps47
  go_wp2_with fail
  go_ret
  exact ⟨rfl, (Below.refl _ w).alloc (Nat.le_refl _) _⟩
set_option maxHeartbeats 1000000 in
theorem nullSortValue_any (w : World) :
    Calls Try.prog 112 #[.agg #[]] w fun r w' => r = .returned (valV ⟨0, 0, 0, ⟨#[]⟩, none, 0, []⟩ none 0 0) ∧ Below w.heap.size w w' := by
  go_enter Try.func112, Try.ntmps112
  go_wp2_with fail
  exact bodyPost_ret (v := valV ⟨0, 0, 0, ⟨#[]⟩, none, 0, []⟩ none 0 0) (by simp [results, Try.results112, go_sem]) rfl ⟨rfl, (by (repeat' (first | assumption | exact Below.refl _ _ | refine Below.alloc ?_ ?_ _ | refine Below.setCell ?_ ?_ _ | refine Below.drew ?_ | refine below_drewN ?_ _)) <;> (first | omega | (simp <;> omega)))⟩
set_option maxHeartbeats 1000000 in
theorem truthSortValue_any (q : Bool) (w : World) :
    Calls Try.prog 114 #[.bool q] w fun r w' => r = .returned (valV ⟨if q then 1 else 2, 0, 0, ⟨#[]⟩, none, 0, []⟩ none 0 0) ∧ Below w.heap.size w w' := by
  cases q
  all_goals
    go_enter Try.func114, Try.ntmps114
    go_wp2_with fail
    refine bodyPost_ret (by simp [results, Try.results114, go_sem]) rfl ⟨rfl, (by (repeat' (first | assumption | exact Below.refl _ _ | refine Below.alloc ?_ ?_ _ | refine Below.setCell ?_ ?_ _ | refine Below.drew ?_ | refine below_drewN ?_ _)) <;> (first | omega | (simp <;> omega)))⟩
set_option maxHeartbeats 1000000 in
theorem numSortValue_any (m e : Int) (w : World) :
    Calls Try.prog 116 #[.agg #[.int .i64 m, .int .i64 e]] w fun r w' => r = .returned (valV ⟨3, m, e, ⟨#[]⟩, none, 0, []⟩ none 0 0) ∧ Below w.heap.size w w' := by
  go_enter Try.func116, Try.ntmps116
  go_wp2_with fail
  exact bodyPost_ret (v := valV ⟨3, m, e, ⟨#[]⟩, none, 0, []⟩ none 0 0) (by simp [results, Try.results116, go_sem]) rfl ⟨rfl, (by (repeat' (first | assumption | exact Below.refl _ _ | refine Below.alloc ?_ ?_ _ | refine Below.setCell ?_ ?_ _ | refine Below.drew ?_ | refine below_drewN ?_ _)) <;> (first | omega | (simp <;> omega)))⟩
set_option maxHeartbeats 1000000 in
theorem textSortValue_any (t : ByteArray) (w : World) :
    Calls Try.prog 118 #[.string t] w fun r w' => r = .returned (valV ⟨4, 0, 0, t, none, 0, []⟩ none 0 0) ∧ Below w.heap.size w w' := by
  go_enter Try.func118, Try.ntmps118
  go_wp2_with fail
  exact bodyPost_ret (v := valV ⟨4, 0, 0, t, none, 0, []⟩ none 0 0) (by simp [results, Try.results118, go_sem]) rfl ⟨rfl, (by (repeat' (first | assumption | exact Below.refl _ _ | refine Below.alloc ?_ ?_ _ | refine Below.setCell ?_ ?_ _ | refine Below.drew ?_ | refine below_drewN ?_ _)) <;> (first | omega | (simp <;> omega)))⟩
set_option maxHeartbeats 1000000 in
theorem arraySortValue_any (a : Option Addr) (n c : Nat) (w : World) :
    Calls Try.prog 121 #[.slice a n c] w fun r w' => r = .returned (valV ⟨5, 0, 0, ⟨#[]⟩, none, 0, []⟩ a n c) ∧ Below w.heap.size w w' := by
  go_enter Try.func121, Try.ntmps121
  go_wp2_with fail
  exact bodyPost_ret (v := valV ⟨5, 0, 0, ⟨#[]⟩, none, 0, []⟩ a n c) (by simp [results, Try.results121, go_sem]) rfl ⟨rfl, (by (repeat' (first | assumption | exact Below.refl _ _ | refine Below.alloc ?_ ?_ _ | refine Below.setCell ?_ ?_ _ | refine Below.drew ?_ | refine below_drewN ?_ _)) <;> (first | omega | (simp <;> omega)))⟩
set_option maxHeartbeats 1000000 in
theorem objectSortValue_any (na : Option Addr) (nc : Nat) (ns : List ByteArray) (a : Option Addr) (n c : Nat) (w : World) :
    Calls Try.prog 123 #[.agg #[.slice na ns.length nc, .slice a n c]] w fun r w' => r = .returned (valV ⟨6, 0, 0, ⟨#[]⟩, na, nc, ns⟩ a n c) ∧ Below w.heap.size w w' := by
  go_enter Try.func123, Try.ntmps123
  go_wp2_with fail
  exact bodyPost_ret (v := valV ⟨6, 0, 0, ⟨#[]⟩, na, nc, ns⟩ a n c) (by simp [results, Try.results123, go_sem]) rfl ⟨rfl, (by (repeat' (first | assumption | exact Below.refl _ _ | refine Below.alloc ?_ ?_ _ | refine Below.setCell ?_ ?_ _ | refine Below.drew ?_ | refine below_drewN ?_ _)) <;> (first | omega | (simp <;> omega)))⟩
set_option maxHeartbeats 1000000 in
theorem nullSortFits_any (w : World) :
    Calls Try.prog 111 #[.agg #[]] w fun r w' => (∃ q : Bool, r = .returned (.bool q) ∧ q = true) ∧ Below w.heap.size w w' := by
  go_enter Try.func111, Try.ntmps111
  go_wp2_with fail
  go_ret
  exact ⟨⟨true, rfl, rfl⟩, (by (repeat' (first | assumption | exact Below.refl _ _ | refine Below.alloc ?_ ?_ _ | refine Below.setCell ?_ ?_ _ | refine Below.drew ?_ | refine below_drewN ?_ _)) <;> (first | omega | (simp <;> omega)))⟩
set_option maxHeartbeats 1000000 in
theorem truthSortFits_any (q : Bool) (w : World) :
    Calls Try.prog 113 #[.bool q] w fun r w' => (∃ q : Bool, r = .returned (.bool q) ∧ q = true) ∧ Below w.heap.size w w' := by
  go_enter Try.func113, Try.ntmps113
  go_wp2_with fail
  go_ret
  exact ⟨⟨true, rfl, rfl⟩, (by (repeat' (first | assumption | exact Below.refl _ _ | refine Below.alloc ?_ ?_ _ | refine Below.setCell ?_ ?_ _ | refine Below.drew ?_ | refine below_drewN ?_ _)) <;> (first | omega | (simp <;> omega)))⟩
set_option maxHeartbeats 1000000 in
theorem arraySortFits_any (a : Option Addr) (n c : Nat) (w : World) :
    Calls Try.prog 120 #[.slice a n c] w fun r w' => (∃ q : Bool, r = .returned (.bool q) ∧ q = true) ∧ Below w.heap.size w w' := by
  go_enter Try.func120, Try.ntmps120
  go_wp2_with fail
  go_ret
  exact ⟨⟨true, rfl, rfl⟩, (by (repeat' (first | assumption | exact Below.refl _ _ | refine Below.alloc ?_ ?_ _ | refine Below.setCell ?_ ?_ _ | refine Below.drew ?_ | refine below_drewN ?_ _)) <;> (first | omega | (simp <;> omega)))⟩
set_option maxHeartbeats 1000000 in
theorem numSortFits_any (m e : Int) (w : World) :
    Calls Try.prog 115 #[.agg #[.int .i64 m, .int .i64 e]] w fun r w' => (∃ q : Bool, r = .returned (.bool q) ∧ q = Dm.ok m e) ∧ Below w.heap.size w w' := by
  have hB0 := (Below.refl _ w).alloc (Nat.le_refl _) (.cells #[.int .i64 m, .int .i64 e] 79)
  go_enter Try.func115, Try.ntmps115
  go_wp2_with fail
  refine (iDecOk_any m e _).mono ?_
  rintro r w1 ⟨rfl, hb1⟩
  have hB1 := hB0.trans (hb1.mono hB0.size)
  go_wp2_with fail
  go_ret
  exact ⟨⟨_, rfl, rfl⟩, hB1⟩
set_option maxHeartbeats 1000000 in
theorem textSortFits_any (t : ByteArray) (w : World) (ht : t.size ≤ maxLen) :
    Calls Try.prog 117 #[.string t] w fun r w' => (∃ q : Bool, r = .returned (.bool q) ∧ q = decide (t.size ≤ 1500)) ∧ Below w.heap.size w w' := by
  go_enter Try.func117, Try.ntmps117
  go_wp2_with fail
  refine (shortText_any t w ht).mono ?_
  rintro r w1 ⟨rfl, rfl⟩
  go_wp2_with fail
  go_ret
  exact ⟨⟨_, rfl, rfl⟩, Below.refl _ _⟩
/-- what fits says, of a value of a sort -/
def FitOf (P : Bool → Prop) (s : Bool) (r : Ending) : Prop := ∃ q : Bool, r = .returned (.bool q) ∧ ((P false ∧ q = false) ∨ (P true ∧ q = s))
set_option maxRecDepth 100000 in
set_option maxHeartbeats 1000000 in
theorem fits_of {h g : Hd} {a ga : Option Addr} {n c gn gc T fid vid : Nat} {sv : Value} {P : Bool → Prop} (w : World) (hh : h.In w)
    (hs : ∀ W, Calls Try.prog 47 #[valV h a n c] W fun r w' => r = .returned (.iface T sv) ∧ Below W.heap.size W w')
    (he1 : ∀ args w, (callFunc fid args).run Try.prog w = .ok (.enter fid args) w) (he2 : ∀ args w, (callFunc vid args).run Try.prog w = .ok (.enter vid args) w)
    (hm1 : ∀ W', (method 233 T sv "loop.example/chancery/impl.fits").run Try.prog W' = .ok (fid, sv) W') (hm2 : ∀ W', (method 233 T sv "loop.example/chancery/impl.value").run Try.prog W' = .ok (vid, sv) W')
    (hfits : ∀ W', Below w.heap.size w W' → Calls Try.prog fid #[sv] W' fun r w' => (∃ q : Bool, r = .returned (.bool q) ∧ P q) ∧ Below W'.heap.size W' w')
    (hval : ∀ W', Calls Try.prog vid #[sv] W' fun r w' => r = .returned (valV g ga gn gc) ∧ Below W'.heap.size W' w') (hg : ∀ W', Below w.heap.size w W' → g.In W') :
    Calls Try.prog 45 #[valV h a n c] w fun r w' => FitOf P (headSameV h n g gn) r ∧ Below w.heap.size w w' := by
  have hB0 := (Below.refl _ w).alloc (Nat.le_refl _) (.cells #[.int .i64 h.k, .int .i64 h.m, .int .i64 h.e, .string h.t, .slice a n c, .slice h.na h.ns.length h.nc] 33)
  have X0 := BxV.new w h (.slice a n c) 33
  go_enter Try.func45, Try.ntmps45
  go_wp2_with fail
  refine (hs _).mono ?_
  rintro r w1 ⟨rfl, hb1⟩
  have hB1 := hB0.trans (hb1.mono hB0.size)
  have X1 := X0.below hb1
  clear X0 hB0 hb1 hs
  go_wp2_with fail
  refine ft2 (P := P) (P2 := fun q => q = headSameV h n g gn) X1 he1 he2 hm1 hm2 (fun W' hW => hfits W' (hB1.trans (hW.mono hB1.size))) (fun W' _ => hval W') (fun W' hW => ?_) (fun _ d _ _ _ h => by cases d <;> exact h) ?_
  · have hq := hB1.trans (hW.mono hB1.size)
    refine (sameHeadV_any h g a ga n c gn gc W' (hh.grow hq) (hg W' hq)).mono ?_
    rintro r w' ⟨rfl, hb'⟩
    exact ⟨⟨_, rfl, rfl⟩, hb'⟩
  · intro ws q v6 v7 v8 v9 v10 v11 v12 v13 v14 v15 v16 v17 hq hb2
    have hB2 := hB1.trans (hb2.mono hB1.size)
    have HQ : Hid ((P false ∧ q = false) ∨ (P true ∧ q = headSameV h n g gn)) := hq
    clear hq X1 he1 he2 hm1 hm2 hfits hval hg
    go_wp2_with fail
    go_ret
    exact ⟨⟨q, rfl, HQ.out⟩, hB2⟩
theorem headSame_true {h g : Hd} {n m : Nat} : headSameV h n g m = true ↔ h.same g ∧ n = m := by unfold headSameV; exact decide_eq_true_iff
theorem fitOf_says {P : Bool → Prop} {s : Bool} {p : Prop} (h1 : P false → ¬ p) (h2 : P true → (s = true ↔ p)) {r : Ending} (h : FitOf P s r) : SaysT p r := by
  obtain ⟨q, rfl, h⟩ := h
  rcases h with ⟨a, e⟩ | ⟨a, e⟩
  · rw [e]; exact ⟨false, rfl, fun e => (by cases e), fun e => absurd e (h1 a)⟩
  · rw [e]; exact ⟨s, rfl, h2 a⟩
theorem empty_in (k m e : Int) (t : ByteArray) (ht : t.size ≤ maxLen) (W : World) : Hd.In W ⟨k, m, e, t, none, 0, []⟩ := ⟨.inl rfl, ⟨Nat.le_refl _, by show 0 ≤ maxLen; omega⟩, ht⟩
theorem empty_size : (⟨#[]⟩ : ByteArray).size ≤ maxLen := by show 0 ≤ maxLen; omega
set_option maxRecDepth 100000 in
set_option maxHeartbeats 1000000 in
theorem fits_any (h : Hd) (a : Option Addr) (n c : Nat) (w : World) (hh : h.In w) :
    Calls Try.prog 45 #[valV h a n c] w fun r w' => SaysT (one h n) r ∧ Below w.heap.size w w' := by
  obtain ⟨k, m, e, t, na, nc, ns⟩ := h
  have ht : t.size ≤ maxLen := hh.2.2
  by_cases hk : 0 ≤ k ∧ k ≤ 6
  · have hc : k = 0 ∨ k = 1 ∨ k = 2 ∨ k = 3 ∨ k = 4 ∨ k = 5 ∨ k = 6 := by omega
    clear hk
    rcases hc with rfl | rfl | rfl | rfl | rfl | rfl | rfl
    · refine (fits_of (T := 73) w hh (fun W => sort_0 ⟨0, m, e, t, na, nc, ns⟩ a n c W rfl) (enters_of Try.func111 (by kernel_rfl) rfl) (enters_of Try.func112 (by kernel_rfl) rfl) (fun W' => by kernel_rfl) (fun W' => by kernel_rfl) (fun W' hW => nullSortFits_any W') (fun W' => nullSortValue_any W') (fun W' hW => empty_in _ _ _ _ empty_size W')).mono ?_
      rintro r w' ⟨hr, hb⟩
      exact ⟨fitOf_says (fun q => (by cases q)) (fun _ => by rw [headSame_true]; simp [one, Hd.same, and_assoc]) hr, hb⟩
    · refine (fits_of (T := 78) w hh (fun W => sort_1 ⟨1, m, e, t, na, nc, ns⟩ a n c W rfl) (enters_of Try.func113 (by kernel_rfl) rfl) (enters_of Try.func114 (by kernel_rfl) rfl) (fun W' => by kernel_rfl) (fun W' => by kernel_rfl) (fun W' hW => truthSortFits_any true W') (fun W' => truthSortValue_any true W') (fun W' hW => empty_in _ _ _ _ empty_size W')).mono ?_
      rintro r w' ⟨hr, hb⟩
      exact ⟨fitOf_says (fun q => (by cases q)) (fun _ => by rw [headSame_true]; simp [one, Hd.same, and_assoc]) hr, hb⟩
    · refine (fits_of (T := 78) w hh (fun W => sort_2 ⟨2, m, e, t, na, nc, ns⟩ a n c W rfl) (enters_of Try.func113 (by kernel_rfl) rfl) (enters_of Try.func114 (by kernel_rfl) rfl) (fun W' => by kernel_rfl) (fun W' => by kernel_rfl) (fun W' hW => truthSortFits_any false W') (fun W' => truthSortValue_any false W') (fun W' hW => empty_in _ _ _ _ empty_size W')).mono ?_
      rintro r w' ⟨hr, hb⟩
      exact ⟨fitOf_says (fun q => (by cases q)) (fun _ => by rw [headSame_true]; simp [one, Hd.same, and_assoc]) hr, hb⟩
    · refine (fits_of (T := 79) w hh (fun W => sort_3 ⟨3, m, e, t, na, nc, ns⟩ a n c W rfl) (enters_of Try.func115 (by kernel_rfl) rfl) (enters_of Try.func116 (by kernel_rfl) rfl) (fun W' => by kernel_rfl) (fun W' => by kernel_rfl) (fun W' hW => numSortFits_any m e W') (fun W' => numSortValue_any m e W') (fun W' hW => empty_in _ _ _ _ empty_size W')).mono ?_
      rintro r w' ⟨hr, hb⟩
      exact ⟨fitOf_says (fun q => by simp [one, ← q]) (fun q => by rw [headSame_true]; simp [one, Hd.same, and_assoc, ← q]) hr, hb⟩
    · refine (fits_of (T := 80) w hh (fun W => sort_4 ⟨4, m, e, t, na, nc, ns⟩ a n c W rfl) (enters_of Try.func117 (by kernel_rfl) rfl) (enters_of Try.func118 (by kernel_rfl) rfl) (fun W' => by kernel_rfl) (fun W' => by kernel_rfl) (fun W' hW => textSortFits_any t W' ht) (fun W' => textSortValue_any t W') (fun W' hW => empty_in _ _ _ _ ht W')).mono ?_
      rintro r w' ⟨hr, hb⟩
      exact ⟨fitOf_says (fun q => by have := of_decide_eq_false q.symm; simp [one]; intro x; omega) (fun q => by have := of_decide_eq_true q.symm; rw [headSame_true]; simp [one, Hd.same, and_assoc, this]) hr, hb⟩
    · refine (fits_of (T := 81) w hh (fun W => sort_5 ⟨5, m, e, t, na, nc, ns⟩ a n c W rfl) (enters_of Try.func120 (by kernel_rfl) rfl) (enters_of Try.func121 (by kernel_rfl) rfl) (fun W' => by kernel_rfl) (fun W' => by kernel_rfl) (fun W' hW => arraySortFits_any a n c W') (fun W' => arraySortValue_any a n c W') (fun W' hW => empty_in _ _ _ _ empty_size W')).mono ?_
      rintro r w' ⟨hr, hb⟩
      exact ⟨fitOf_says (fun q => (by cases q)) (fun _ => by rw [headSame_true]; simp [one, Hd.same, and_assoc]) hr, hb⟩
    · refine (fits_of (T := 84) w hh (fun W => sort_6 ⟨6, m, e, t, na, nc, ns⟩ a n c W rfl) (enters_of Try.func122 (by kernel_rfl) rfl) (enters_of Try.func123 (by kernel_rfl) rfl) (fun W' => by kernel_rfl) (fun W' => by kernel_rfl) (fun W' hW => objFits_any ns na nc a n c W' (hh.1.grow hW) hh.2.1.1 hh.2.1.2) (fun W' => objectSortValue_any na nc ns a n c W') (fun W' hW => ⟨hh.1.grow hW, hh.2.1, empty_size⟩)).mono ?_
      rintro r w' ⟨hr, hb⟩
      exact ⟨fitOf_says (fun q => by simp only [Bool.false_eq_true, false_iff] at q; simp [one]; intro x y; exact absurd ⟨x, y⟩ q) (fun q => by have hq := q.1 rfl; rw [headSame_true]; simp [one, Hd.same, and_assoc, hq.1]; intro _ _ _; have h2 := hq.2; rwa [hq.1] at h2) hr, hb⟩
  · have hno : ¬ one ⟨k, m, e, t, na, nc, ns⟩ n := by
      unfold one
      dsimp only
      intro h
      rcases h with ⟨h, _⟩ | ⟨h, _⟩ | ⟨h, _⟩ | ⟨h, _⟩ | ⟨h, _⟩ <;> omega
    have hB0 := (Below.refl _ w).alloc (Nat.le_refl _) (.cells #[.int .i64 k, .int .i64 m, .int .i64 e, .string t, .slice a n c, .slice na ns.length nc] 33)
    have HNO : Hid (¬ one ⟨k, m, e, t, na, nc, ns⟩ n) := hno
    clear hno
    go_enter Try.func45, Try.ntmps45
    go_wp2_with fail
    refine (sort_no ⟨k, m, e, t, na, nc, ns⟩ a n c _ hk).mono ?_
    rintro r w1 ⟨rfl, hb1⟩
    have hB1 := hB0.trans (hb1.mono hB0.size)
    go_wp2_with fail
    refine ft2n (fun _ d _ _ _ h => by cases d <;> exact h) ?_
    intro ws v6 v7 v8 v9 v10 v11 v12 v13 v14 v15 v16 v17 hb2
    have hB2 := hB1.trans (hb2.mono hB1.size)
    go_wp2_with fail
    go_ret
    exact ⟨⟨false, rfl, fun h => (by cases h), fun h => absurd h HNO.out⟩, hB2⟩
end Go.Proofs.Ytpgpkdeiapeoiaa
/- The iterator over a value and all in it. -/
namespace Go.Proofs.Ytpgpkdeiapeoiaa
open Go.RowKit Go.Shelf
attribute [local go_sem] Oper.semAt_some
/-- the values of a list and all in them, each ahead of those in it, with how deep it stands -/
def Vo.flat : Vo → Nat → List (Nat × Hd × Vo)
  | .nil, _ => []
  | .cons h _ _ kids next, d => (d, h, kids) :: (kids.flat (d + 1) ++ next.flat d)
theorem Vo.flat_len : ∀ (F : Vo) (d : Nat), (F.flat d).length = F.size := by
  intro F
  induction F with
  | nil => intro d; rfl
  | cons h a c kids next ih1 ih2 => intro d; show ((d, h, kids) :: (kids.flat (d + 1) ++ next.flat d)).length = kids.size + 1 + next.size; simp [ih1, ih2]; omega
theorem SFrom.sub {w w' : World} (h : Sub w w') : ∀ {ss : List ByteArray} {b o : Nat}, SFrom w ss b o → SFrom w' ss b o := by
  intro ss
  induction ss with
  | nil => intro b o _; trivial
  | cons s t ih => rintro b o ⟨h1, h2, h3⟩; exact ⟨h _ _ _ h1, h2, ih h3⟩
theorem Hd.In.sub {w w' : World} {x : Hd} (y : x.In w) (h : Sub w w') : x.In w' := by
  refine ⟨?_, y.2⟩
  rcases y.1 with y | ⟨b, o, e, y⟩
  · exact .inl y
  · exact .inr ⟨b, o, e, y.sub h⟩
/-- a value that is told, with how deep it stands; what is in it lies in the world w -/
structure TV (w : World) where
  d : Nat
  h : Hd
  a : Option Addr
  kids : Vo
  c : Nat
  hin : kids.In w a
  hl : kids.len ≤ c
  hc : c ≤ maxLen
  hh : h.In w
def TV.raw {w : World} (x : TV w) : Nat × Hd × Vo := (x.d, x.h, x.kids)
def TV.enc {w : World} (x : TV w) : Array Value := #[.int .i64 x.d, .agg #[.int .i64 x.h.k, .int .i64 x.h.m, .int .i64 x.h.e, .string x.h.t, .slice x.a x.kids.len x.c, .slice x.h.na x.h.ns.length x.h.nc]]
set_option maxRecDepth 100000 in
set_option maxHeartbeats 2000000 in
theorem tellV_in (w0 : World) (l n0 n1 N B : Nat) (J Jx : List (TV w0) → World → Prop) (hJ : AbidesFrom B J) (hn0 : w0.heap.size ≤ n0)
    (hY : ∀ (q : Nat) (pre : List (TV w0)) (x : TV w0) (W : World), J pre W → pre.length < N → YieldAt Fence.wide q Try.prog l x.enc W fun e W' =>
      (e = .returned (.bool true) ∧ J (pre ++ [x]) W' ∧ Kept n0 n1 W W') ∨ (e = .returned (.bool false) ∧ Jx (pre ++ [x]) W')) (M : Nat) :
    ∀ (n : Nat) (x : TV w0) (pre : List (TV w0)) (W : World), x.kids.size < M → x.d + x.kids.size ≤ 1000000000 → n1 ≤ W.heap.size → Sub w0 W → J pre W → pre.length + (x.kids.size + 1) ≤ N →
      CallsIn Fence.wide n Try.prog 65 #[.agg #[.int .i64 x.h.k, .int .i64 x.h.m, .int .i64 x.h.e, .string x.h.t, .slice x.a x.kids.len x.c, .slice x.h.na x.h.ns.length x.h.nc], .int .i64 x.d, .func (.yield l) #[] #[]] W fun e W' =>
        (e = .returned (.bool true) ∧ (∃ ys : List (TV w0), ys.map TV.raw = x.raw :: x.kids.flat (x.d + 1) ∧ J (pre ++ ys) W') ∧ Kept n0 n1 W W') ∨
        (e = .returned (.bool false) ∧ ∃ ys : List (TV w0), ys.map TV.raw <+: (x.raw :: x.kids.flat (x.d + 1)) ∧ Jx (pre ++ ys) W') := by
  induction M with
  | zero => intro n x pre W h; omega
  | succ M ih =>
    intro n x pre W hM hd hn1 hsub hJ0 hN
    have hcc := x.hc
    unfold maxLen at hcc
    have hlc := x.hl
    have hll := x.kids.len_le
    have hin := x.hin
    have hsz1 : W.heap.size < (W.alloc (.cells #[.int .i64 x.h.k, .int .i64 x.h.m, .int .i64 x.h.e, .string x.h.t, .slice x.a x.kids.len x.c, .slice x.h.na x.h.ns.length x.h.nc] 33)).heap.size := by simp
    have hb0 : Below W.heap.size W (W.alloc (.cells #[.int .i64 x.h.k, .int .i64 x.h.m, .int .i64 x.h.e, .string x.h.t, .slice x.a x.kids.len x.c, .slice x.h.na x.h.ns.length x.h.nc] 33)) := (Below.refl _ W).alloc (Nat.le_refl _) _
    have hJ1 := hJ _ _ _ none hJ0 (grown_below hb0) (fun r e => by cases e)
    obtain ⟨fn, tmps, assign, body, hy, hR⟩ := hY (n - 1) pre x _ hJ1 (by omega)
    dsimp only [TV.enc] at hy
    refine callsIn_of_wp Try.func65 rfl trivial ?_ rfl
    simp only [Try.ntmps65, List.size_toArray, List.length_cons, List.length_nil, Nat.reduceAdd, Nat.reduceSub, Array.replicate_succ, Array.replicate_zero, List.push_toArray, List.append_toArray, List.nil_append, List.cons_append]
    gi_wp2
    refine ⟨fun h => (by cases h), hR.mono ?_⟩
    clear hR hy
    have c0 : (W.alloc (.cells #[.int .i64 x.h.k, .int .i64 x.h.m, .int .i64 x.h.e, .string x.h.t, .slice x.a x.kids.len x.c, .slice x.h.na x.h.ns.length x.h.nc] 33)).cell? ⟨W.heap.size, 0, none⟩ = some (.int .i64 x.h.k) := by simp
    have c1 : (W.alloc (.cells #[.int .i64 x.h.k, .int .i64 x.h.m, .int .i64 x.h.e, .string x.h.t, .slice x.a x.kids.len x.c, .slice x.h.na x.h.ns.length x.h.nc] 33)).cell? ⟨W.heap.size, 1, none⟩ = some (.int .i64 x.h.m) := by simp
    have c2 : (W.alloc (.cells #[.int .i64 x.h.k, .int .i64 x.h.m, .int .i64 x.h.e, .string x.h.t, .slice x.a x.kids.len x.c, .slice x.h.na x.h.ns.length x.h.nc] 33)).cell? ⟨W.heap.size, 2, none⟩ = some (.int .i64 x.h.e) := by simp
    have c3 : (W.alloc (.cells #[.int .i64 x.h.k, .int .i64 x.h.m, .int .i64 x.h.e, .string x.h.t, .slice x.a x.kids.len x.c, .slice x.h.na x.h.ns.length x.h.nc] 33)).cell? ⟨W.heap.size, 3, none⟩ = some (.string x.h.t) := by simp
    have c4 : (W.alloc (.cells #[.int .i64 x.h.k, .int .i64 x.h.m, .int .i64 x.h.e, .string x.h.t, .slice x.a x.kids.len x.c, .slice x.h.na x.h.ns.length x.h.nc] 33)).cell? ⟨W.heap.size, 4, none⟩ = some (.slice x.a x.kids.len x.c) := by simp
    have c5 : (W.alloc (.cells #[.int .i64 x.h.k, .int .i64 x.h.m, .int .i64 x.h.e, .string x.h.t, .slice x.a x.kids.len x.c, .slice x.h.na x.h.ns.length x.h.nc] 33)).cell? ⟨W.heap.size, 5, none⟩ = some (.slice x.h.na x.h.ns.length x.h.nc) := by simp
    generalize W.alloc (.cells #[.int .i64 x.h.k, .int .i64 x.h.m, .int .i64 x.h.e, .string x.h.t, .slice x.a x.kids.len x.c, .slice x.h.na x.h.ns.length x.h.nc] 33) = W1 at *
    rintro r W2 (⟨rfl, hJ2, hk2⟩ | ⟨rfl, hx2⟩)
    · have d0 := hk2.cell c0 (.inr hn1)
      have d1 := hk2.cell c1 (.inr hn1)
      have d2 := hk2.cell c2 (.inr hn1)
      have d3 := hk2.cell c3 (.inr hn1)
      have d4 := hk2.cell c4 (.inr hn1)
      have d5 := hk2.cell c5 (.inr hn1)
      have K2 : Kept n0 n1 W W2 := (Kept.of_below hb0).trans hk2
      clear c0 c1 c2 c3 c4 c5 hJ1 hk2 hb0 hsz1 hJ0
      have hmeth := belowV_method
      gi_wp2
      refine ⟨trivial, fun h => (by cases h), (callsIn_wide.2 (belowV_any _ _ _ _ _)).mono ?_⟩
      rintro r W3 ⟨rfl, hb3⟩
      have hJ3 := hJ _ _ _ none hJ2 (grown_below hb3) (fun r e => by cases e)
      have K3 : Kept n0 n1 W W3 := K2.trans (Kept.of_below hb3)
      clear d0 d1 d2 d3 d4 d5 hb3 hJ2 K2 hmeth
      gi_wp2
      gi_loopw [18] (fun i wr => ∃ (j : Nat) (ys : List (TV w0)) (G : Vo), i = .int .i64 j ∧ j + G.len = x.kids.len ∧ G.size ≤ x.kids.size ∧ ys.map TV.raw ++ G.flat (x.d + 1) = x.raw :: x.kids.flat (x.d + 1) ∧ (G = .nil ∨ ∃ b o, x.a = some ⟨b, o, none⟩ ∧ G.From w0 b (o + j * 6)) ∧ J (pre ++ ys) wr ∧ Kept n0 n1 W wr) (fun i _ => x.kids.len - (intOf i).toNat)
      case atStart =>
        refine ⟨0, [x], x.kids, rfl, by omega, Nat.le_refl _, rfl, ?_, hJ3, K3⟩
        rcases hin with h | ⟨b, o, e1, e2⟩
        · exact .inl h
        · exact .inr ⟨b, o, e1, by simpa using e2⟩
      case round =>
        obtain ⟨j, ys, G, rfl, hj, hs, hflat, hG, hJs, hK⟩ := hrel
        cases G with
        | nil =>
          have hj' : j = x.kids.len := by simpa [Vo.len] using hj
          have hf' : ys.map TV.raw = x.raw :: x.kids.flat (x.d + 1) := by simpa [Vo.flat] using hflat
          have hlt : ¬ (j : Int) < (x.kids.len : Int) := by omega
          clear hG hj hflat
          gi_wp2
          refine bodyPost_ret (results_tmp rfl _ _ _) rfl (.inl ⟨rfl, ⟨ys, hf', hJs⟩, hK⟩)
        | cons h' a' c' kids next =>
          rcases hG with hG | ⟨b, o, ha, hcells, hk, ⟨hc1, hc2⟩, hh', hn⟩
          · cases hG
          have hln : j + (next.len + 1) = x.kids.len := hj
          have hsz : kids.size + 1 + next.size ≤ x.kids.size := hs
          have hlt : (j : Int) < (x.kids.len : Int) := by omega
          have hjl : j < x.kids.len := by omega
          have hyl : ys.length + (kids.size + 1 + next.size) = 1 + x.kids.size := by
            have := congrArg List.length hflat
            simp [Vo.flat_len] at this
            have h2 : (Vo.cons h' a' c' kids next).size = kids.size + 1 + next.size := rfl
            omega
          have hsubw : Sub w0 wr := hK.sub hsub hn0
          obtain ⟨h1, h2, h3, h4, h5, h6⟩ := hcells
          have g1 := hsubw _ _ _ h1
          have g2 := hsubw _ _ _ h2
          have g3 := hsubw _ _ _ h3
          have g4 := hsubw _ _ _ h4
          have g5 := hsubw _ _ _ h5
          have g6 := hsubw _ _ _ h6
          rw [ha] at *
          clear h1 h2 h3 h4 h5 h6 hj hs
          have hbA : Below wr.heap.size wr (wr.alloc (.cells #[.int .i64 h'.k, .int .i64 h'.m, .int .i64 h'.e, .string h'.t, .slice a' kids.len c', .slice h'.na h'.ns.length h'.nc] 33)) := (Below.refl _ wr).alloc (Nat.le_refl _) _
          have KA : Kept n0 n1 wr _ := Kept.of_below hbA
          have HI := ih (n - 1) ⟨x.d + 1, h', a', kids, c', hk, hc1, hc2, hh'⟩ (pre ++ ys) (wr.alloc (.cells #[.int .i64 h'.k, .int .i64 h'.m, .int .i64 h'.e, .string h'.t, .slice a' kids.len c', .slice h'.na h'.ns.length h'.nc] 33))
            (by show kids.size < M; omega) (by show x.d + 1 + kids.size ≤ 1000000000; omega) (by have := hK.1; simp; omega) (KA.sub hsubw hn0) (hJ _ _ _ none hJs (grown_below hbA) (fun r e => by cases e)) (by show (pre ++ ys).length + (kids.size + 1) ≤ N; rw [List.length_append]; omega)
          have hfl : ys.map TV.raw ++ ((x.d + 1, h', kids) :: (kids.flat (x.d + 1 + 1) ++ next.flat (x.d + 1))) = x.raw :: x.kids.flat (x.d + 1) := hflat
          gi_wp2
          refine ⟨trivial, fun h => (by cases h), HI.mono ?_⟩
          clear HI ih hflat g1 g2 g3 g4 g5 g6
          rintro r W4 (⟨rfl, ⟨zs, hz, hJz⟩, hKz⟩ | ⟨rfl, zs, hz, hxz⟩)
          · have hK4 : Kept n0 n1 W W4 := (hK.trans KA).trans hKz
            have hJ4 : J (pre ++ (ys ++ zs)) W4 := by rw [← List.append_assoc]; exact hJz
            have hf4 : (ys ++ zs).map TV.raw ++ next.flat (x.d + 1) = x.raw :: x.kids.flat (x.d + 1) := by
              rw [← hfl, List.map_append, hz]; simp [TV.raw]
            clear hJs hK KA hKz hJz hfl hz hsubw hbA
            gi_wp2
            go_roundw
            case rel =>
              refine ⟨j + 1, ys ++ zs, next, by go_num, by omega, by omega, hf4, .inr ⟨b, o, rfl, ?_⟩, hJ4, hK4⟩
              rw [show o + (j + 1) * 6 = o + j * 6 + 6 by omega]; exact hn
            case measure => simp [intOf]; omega
          · have hx4 : Jx (pre ++ (ys ++ zs)) W4 := by rw [← List.append_assoc]; exact hxz
            have hf4 : (ys ++ zs).map TV.raw <+: (x.raw :: x.kids.flat (x.d + 1)) := by
              obtain ⟨tl, htl⟩ := hz
              refine ⟨tl ++ next.flat (x.d + 1), ?_⟩
              rw [← hfl, List.map_append, List.append_assoc, ← List.append_assoc (zs.map TV.raw), htl]; simp [TV.raw]
            clear hJs hK KA hxz hfl hz hsubw hbA
            gi_wp2
            refine bodyPost_ret (results_tmp rfl _ _ _) rfl (.inr ⟨rfl, ys ++ zs, hf4, hx4⟩)
    · gi_wp2
      refine bodyPost_ret (results_tmp rfl _ _ _) rfl (.inr ⟨rfl, [x], ?_, hx2⟩)
      exact ⟨x.kids.flat (x.d + 1), rfl⟩

set_option maxHeartbeats 1000000 in
/-- the function that allOf hands back tells the value and all in it -/
theorem allV_stops (w0 : World) (n n0 n1 Bt : Nat) (x : TV w0) (w : World) (hd : x.d = 1) (hx : x.kids.size ≤ 2000000) (hn0 : w0.heap.size ≤ n0) (hn1 : n1 ≤ w.heap.size) (hsub : Sub w0 w)
    (c0 : w.cell? ⟨Bt, 0, none⟩ = some (.int .i64 x.h.k)) (c1 : w.cell? ⟨Bt, 1, none⟩ = some (.int .i64 x.h.m)) (c2 : w.cell? ⟨Bt, 2, none⟩ = some (.int .i64 x.h.e)) (c3 : w.cell? ⟨Bt, 3, none⟩ = some (.string x.h.t)) (c4 : w.cell? ⟨Bt, 4, none⟩ = some (.slice x.a x.kids.len x.c)) (c5 : w.cell? ⟨Bt, 5, none⟩ = some (.slice x.h.na x.h.ns.length x.h.nc)) :
    SeqStopsK Fence.wide n Try.prog 64 #[.pointer (some ⟨Bt, 0, none⟩)] (fun y : TV w0 => y.enc) (Kept n0 n1) (fun ys => ys.map TV.raw = x.raw :: x.kids.flat 2) (fun ys => ys.map TV.raw <+: (x.raw :: x.kids.flat 2)) (x.kids.size + 1) w := fun l J Jx W hW hJ hJx hY h0 => by
  have hB := World.block_lt_of_cell? w _ c0
  have C0 := (hW.cell (p := ⟨Bt, 0, none⟩) hB).trans c0
  have C1 := (hW.cell (p := ⟨Bt, 1, none⟩) hB).trans c1
  have C2 := (hW.cell (p := ⟨Bt, 2, none⟩) hB).trans c2
  have C3 := (hW.cell (p := ⟨Bt, 3, none⟩) hB).trans c3
  have C4 := (hW.cell (p := ⟨Bt, 4, none⟩) hB).trans c4
  have C5 := (hW.cell (p := ⟨Bt, 5, none⟩) hB).trans c5
  have hs := hW.size
  have HT := tellV_in w0 l n0 n1 (x.kids.size + 1) _ J Jx hJ hn0 (fun q pre y W1 h1 h2 => yieldAt_any rfl q (hY pre y W1 h1 h2)) (x.kids.size + 1) (n - 1) x [] W (by omega) (by omega) (by omega) (fun b o v hv => (hW.cell (p := ⟨b, o, none⟩) (World.block_lt_of_cell? _ _ (hsub b o v hv))).trans (hsub b o v hv)) h0 (by simp)
  rw [hd] at HT
  clear c0 c1 c2 c3 c4 c5 hY
  refine callsIn_of_wp Try.func64 rfl trivial ?_ rfl
  simp only [Try.ntmps64, List.size_toArray, List.length_cons, List.length_nil, Nat.reduceAdd, Nat.reduceSub, Array.replicate_succ, Array.replicate_zero, List.push_toArray, List.append_toArray, List.nil_append, List.cons_append]
  gi_wp2
  refine ⟨trivial, fun h => (by cases h), HT.mono ?_⟩
  clear HT
  rintro r W1 (⟨rfl, ⟨ys, hz, hJz⟩, _⟩ | ⟨rfl, ys, hz, hxz⟩)
  · gi_wp2
    go_end0
    exact ⟨⟨_, rfl⟩, .inl ⟨ys, hz, by simpa using hJz⟩⟩
  · gi_wp2
    go_end0
    exact ⟨⟨_, rfl⟩, .inr ⟨ys, hz, by simpa using hxz⟩⟩

set_option maxHeartbeats 400000 in
theorem allOfV_any (h : Hd) (a : Option Addr) (n c : Nat) (w : World) :
    Calls Try.prog 44 #[valV h a n c] w fun r w' => r = .returned (.func (.func 64) #[] #[.pointer (some ⟨w.heap.size, 0, none⟩)]) ∧ w' = w.alloc (.cells #[.int .i64 h.k, .int .i64 h.m, .int .i64 h.e, .string h.t, .slice a n c, .slice h.na h.ns.length h.nc] 33) := by
  go_enter Try.func44, Try.ntmps44
  go_wp2_with fail
  go_ret
  exact ⟨rfl, rfl⟩
end Go.Proofs.Ytpgpkdeiapeoiaa
/- Contract: ValueOk of the program. -/
namespace Go.Proofs.Ytpgpkdeiapeoiaa
open Go.RowKit Go.Shelf
attribute [local go_sem] Oper.semAt_some cell_alloc_is frozen_alloc_is
/-- all in a list so far are as they are to be -/
def GoodV {w : World} (pre : List (TV w)) : Prop := pre.length ≤ 200 ∧ ∀ x ∈ pre, x.d ≤ 20 ∧ one x.h x.kids.len
theorem own_blockV {B : Nat} {W W' : World} {row : Option Nat} (hg : W.grownBy W' row) (hr : ∀ r, row = some r → B ≤ r ∧ ∃ o : Obj, W.heap[r]? = some o ∧ o.isCells = false) {j : Nat} {o : Obj} (hj : W.heap[j]? = some o) (h : j < B ∨ o.isCells = true) : W'.heap[j]? = some o := by
  refine (hg.block j (Array.getElem?_eq_some_iff.1 hj).1 ?_).trans hj
  intro e
  obtain ⟨h1, o', h2, h3⟩ := hr j e.symm
  rcases h with h | h
  · omega
  · rw [hj] at h2; cases h2; rw [h] at h3; cases h3
/-- a value and all in it, at most 200, none deeper than 20, each with just what its kind has -/
def ValGood (h : Hd) (F : Vo) : Prop := ((1, h, F) :: F.flat 2).length ≤ 200 ∧ ∀ x ∈ ((1, h, F) :: F.flat 2), x.1 ≤ 20 ∧ one x.2.1 x.2.2.len
set_option maxRecDepth 100000 in
set_option maxHeartbeats 2000000 in
theorem iValueOk_any (h : Hd) (a : Option Addr) (c : Nat) (F : Vo) (w : World) (hF : F.size ≤ 2000000) (hin : F.In w a) (hl : F.len ≤ c) (hc : c ≤ maxLen) (hh : h.In w) :
    Calls Try.prog 25 #[valV h a F.len c] w fun r w' => SaysT (ValGood h F) r ∧ Below w.heap.size w w' := by
  refine (callsIn_wide (n := 5)).1 ?_
  refine callsIn_of_wp_marks Try.func25 rfl trivial ?_ rfl
  simp only [Try.ntmps25, List.size_toArray, List.length_cons, List.length_nil, Nat.reduceAdd, Nat.reduceSub, Array.replicate_succ, Array.replicate_zero, List.push_toArray, List.append_toArray, List.nil_append, List.cons_append]
  gi_wp2_with fail
  refine ⟨trivial, (callsIn_wide.2 (allOfV_any h a F.len c _)).mono ?_⟩
  rintro r W0' ⟨rfl, rfl⟩
  obtain ⟨W3, hW3⟩ : ∃ W3, ((w.alloc (.cells #[.int .i64 h.k, .int .i64 h.m, .int .i64 h.e, .string h.t, .slice a F.len c, .slice h.na h.ns.length h.nc] 33)).alloc (.cells #[.bool false] 4)).alloc (.cells #[.int .i64 0] 3) = W3 := ⟨_, rfl⟩
  have hs3 : W3.heap.size = w.heap.size + 3 := by rw [← hW3]; simp
  have hB3 : Below w.heap.size w W3 := by rw [← hW3]; exact (((Below.refl _ w).alloc (Nat.le_refl _) _).alloc (by simp) _).alloc (by simp; omega) _
  have hR3 : W3.heap[w.heap.size + 1]? = some (.cells #[.bool false] 4 (0, 0)) := by
    rw [← hW3]
    refine (Below.heap_alloc _ _ _ (by simp)).trans ?_
    have := World.alloc_heap_new (w.alloc (.cells #[.int .i64 h.k, .int .i64 h.m, .int .i64 h.e, .string h.t, .slice a F.len c, .slice h.na h.ns.length h.nc] 33)) (.cells #[.bool false] 4)
    rwa [World.size_alloc] at this
  have hS3 : W3.heap[w.heap.size + 2]? = some (.cells #[.int .i64 0] 3 (0, 0)) := by
    rw [← hW3]
    have := World.alloc_heap_new ((w.alloc (.cells #[.int .i64 h.k, .int .i64 h.m, .int .i64 h.e, .string h.t, .slice a F.len c, .slice h.na h.ns.length h.nc] 33)).alloc (.cells #[.bool false] 4)) (.cells #[.int .i64 0] 3)
    rwa [World.size_alloc, World.size_alloc] at this
  rw [hW3]
  clear hW3
  obtain ⟨W0, hW0⟩ : ∃ W0, W3.alloc (.cells #[.int .i64 h.k, .int .i64 h.m, .int .i64 h.e, .string h.t, .slice a F.len c, .slice h.na h.ns.length h.nc] 33) = W0 := ⟨_, rfl⟩
  have hbx : Below W3.heap.size W3 W0 := by rw [← hW0]; exact (Below.refl _ _).alloc (Nat.le_refl _) _
  have hX0 : BxV W3.heap.size h (.slice a F.len c) W0 := by rw [← hW0]; exact BxV.new W3 h (.slice a F.len c) 33
  obtain ⟨n0, n1, n2, n3, n4, n5⟩ := hX0
  have hsz : W0.heap.size = w.heap.size + 4 := by rw [← hW0]; simp; omega
  have hBW : Below w.heap.size w W0 := hB3.trans (hbx.mono (by omega))
  have hR0 := (hbx.block _ (by omega)).trans hR3
  have hS0 := (hbx.block _ (by omega)).trans hS3
  rw [hW0]
  clear hW0 hR3 hS3 hB3 hbx
  rw [hs3] at n0 n1 n2 n3 n4 n5 ⊢
  clear hs3
  gi_wp2_with fail
  refine wpIn_rangeFunc_ownH rfl (by omega) (gf := 64) (lb := #[.pointer (some ⟨w.heap.size + 3, 0, none⟩)]) rfl trivial (enters_of Try.func64 (by kernel_rfl) rfl)
    (allV_stops w 4 w.heap.size W0.heap.size (w.heap.size + 3) ⟨1, h, a, F, c, hin, hl, hc, hh⟩ W0 rfl (by show F.size ≤ 2000000; omega) (Nat.le_refl _) (Nat.le_refl _) (Sub.of_below hBW) n0 n1 n2 n3 n4 n5)
    Kept.trans (fun W l o o' hl' h hcl _ => ⟨(grownBy_putObj' W l o').size, fun j x hx hxc _ => ((grownBy_putObj' W l o').block j (Array.getElem?_eq_some_iff.1 hx).1 (by intro e; cases e; rw [h] at hx; cases hx; rw [hcl] at hxc; cases hxc)).trans hx⟩)
    (Below.refl _ _) (fun _ => rfl)
    (fun pre W => ((W.heap[w.heap.size + 1]? = some (.cells #[.bool false] 4 (0, 0)) ∧ W.heap[w.heap.size + 2]? = some (.cells #[.int .i64 pre.length] 3 (0, 0))) ∧ (GoodV pre ∧ W0.heap.size ≤ W.heap.size)) ∧ Below w.heap.size w W)
    (fun cd pre W => ((cd = .ret ∧ ¬ GoodV pre) ∧ W.heap[w.heap.size + 1]? = some (.cells #[.bool false] 4 (0, 0))) ∧ Below w.heap.size w W)
    (OwnFrom.and (fun s W W' row hs hg hr => ⟨⟨own_blockV hg hr hs.1.1 (.inl (by omega)), own_blockV hg hr hs.1.2 (.inl (by omega))⟩, hs.2.1, Nat.le_trans hs.2.2 hg.size⟩) (ownFrom_below (Nat.le_refl _) (by omega)))
    (fun cd => OwnFrom.and (fun s W W' row hs hg hr => ⟨hs.1, own_blockV hg hr hs.2 (.inl (by omega))⟩) (ownFrom_below (Nat.le_refl _) (by omega)))
    ⟨⟨⟨hR0, hS0⟩, by simp [GoodV], Nat.le_refl _⟩, hBW⟩
    (fun x a' W => ∃ Bx, W0.heap.size ≤ Bx ∧ W.heap[Bx]? = some (.cells #[.int .i64 x.h.k, .int .i64 x.h.m, .int .i64 x.h.e, .string x.h.t, .slice x.a x.kids.len x.c, .slice x.h.na x.h.ns.length x.h.nc] 33 (0, 0)) ∧ a' = { tmps := #[valV h a F.len c, .pointer (some ⟨w.heap.size, 0, none⟩), .pointer (some ⟨w.heap.size + 1, 0, none⟩), .pointer (some ⟨w.heap.size + 2, 0, none⟩), .int .i64 x.d, .pointer (some ⟨Bx, 0, none⟩), valV h a F.len c, .func (.func 64) #[] #[.pointer (some ⟨w.heap.size + 3, 0, none⟩)], .int .i64 x.d, .agg #[.int .i64 x.h.k, .int .i64 x.h.m, .int .i64 x.h.e, .string x.h.t, .slice x.a x.kids.len x.c, .slice x.h.na x.h.ns.length x.h.nc], undef, undef, undef, undef, undef, undef, undef, undef, undef, undef, undef, undef, undef], defers := [] })
    (fun x a' _ W W' row hs hg hr => by obtain ⟨Bx, e1, e2, e3⟩ := hs; exact ⟨Bx, e1, own_blockV hg hr e2 (.inr rfl), e3⟩)
    ?assign ?body ?done ?stop
  case assign =>
    rintro l pre x W K ⟨⟨⟨hR, hS⟩, hg, hz⟩, hB⟩ hK
    have hbA : Below W.heap.size W (W.alloc (.cells #[.int .i64 x.h.k, .int .i64 x.h.m, .int .i64 x.h.e, .string x.h.t, .slice x.a x.kids.len x.c, .slice x.h.na x.h.ns.length x.h.nc] 33)) := (Below.refl _ W).alloc (Nat.le_refl _) _
    dsimp only [TV.enc]
    gi_wp2
    exact hK _ _ ((KeepsOthers.alloc _ _).from _) (Kept.of_below hbA)
      ⟨⟨⟨(hbA.block _ (Array.getElem?_eq_some_iff.1 hR).1).trans hR, (hbA.block _ (Array.getElem?_eq_some_iff.1 hS).1).trans hS⟩, hg, Nat.le_trans hz hbA.size⟩, hB.trans (hbA.mono hB.size)⟩
      ⟨W.heap.size, hz, World.alloc_heap_new W _, rfl⟩
  case body =>
    rintro l pre x a' W hl' ⟨rr, hrr⟩ ⟨⟨⟨hR, hS⟩, hg, hz⟩, hB⟩ ⟨Bx, hBx, hX, rfl⟩ hlt
    have cS := (show Boxed W (w.heap.size + 2) 3 (.int .i64 pre.length) from hS).cell
    have fS := (show Boxed W (w.heap.size + 2) 3 (.int .i64 pre.length) from hS).frozen
    have hgl := hg.1
    have x0 : W.cell? ⟨Bx, 0, none⟩ = some (.int .i64 x.h.k) := by simp [World.cell?, hX]
    have x1 : W.cell? ⟨Bx, 1, none⟩ = some (.int .i64 x.h.m) := by simp [World.cell?, hX]
    have x2 : W.cell? ⟨Bx, 2, none⟩ = some (.int .i64 x.h.e) := by simp [World.cell?, hX]
    have x3 : W.cell? ⟨Bx, 3, none⟩ = some (.string x.h.t) := by simp [World.cell?, hX]
    have x4 : W.cell? ⟨Bx, 4, none⟩ = some (.slice x.a x.kids.len x.c) := by simp [World.cell?, hX]
    have x5 : W.cell? ⟨Bx, 5, none⟩ = some (.slice x.h.na x.h.ns.length x.h.nc) := by simp [World.cell?, hX]
    have cR := (show Boxed W (w.heap.size + 1) 4 (.bool false) from hR).cell
    have fR := (show Boxed W (w.heap.size + 1) 4 (.bool false) from hR).frozen
    have hne : ¬ w.heap.size + 2 = Bx := by omega
    have hne2 : ¬ w.heap.size + 2 = w.heap.size + 1 := by omega
    obtain ⟨Wn, hWn⟩ : ∃ Wn, Wn = W.setCell ⟨w.heap.size + 2, 0, none⟩ (.int .i64 ((pre.length : Int) + 1)) := ⟨_, rfl⟩
    have hSn : Wn.heap[w.heap.size + 2]? = some (.cells #[.int .i64 ((pre ++ [x]).length : Nat)] 3 (0, 0)) := by rw [hWn, show ((pre.length : Int) + 1) = (((pre ++ [x]).length : Nat) : Int) by simp]; exact Boxed.set _ (show Boxed W (w.heap.size + 2) 3 (.int .i64 pre.length) from hS)
    have hoth : ∀ j, j ≠ w.heap.size + 2 → Wn.heap[j]? = W.heap[j]? := fun j hj => by rw [hWn]; exact Below.heap_setCell _ _ _ j (fun e => hj e)
    have hKo : KeepsOthers W Wn := by rw [hWn]; exact KeepsOthers.setCell _ _ _
    have hBn : Below w.heap.size w Wn := by rw [hWn]; exact hB.setCell (p := ⟨w.heap.size + 2, 0, none⟩) (by show _ ≤ _ + 2; omega) _
    have hszn : Wn.heap.size = W.heap.size := by rw [hWn]; simp [World.setCell]
    have hKn : Kept w.heap.size W0.heap.size W Wn := ⟨by omega, fun j o ho _ hj => (hoth j (by omega)).trans ho⟩
    have hRn : Wn.heap[w.heap.size + 1]? = some (.cells #[.bool false] 4 (0, 0)) := (hoth _ (by omega)).trans hR
    by_cases q1 : pre.length + 1 ≤ 200
    · have q1' : ¬ (200 : Int) < (pre.length : Int) + 1 := by omega
      by_cases q2 : x.d ≤ 20
      · have q2' : ¬ (20 : Int) < (x.d : Int) := by omega
        gi_wp2_with fail
        rw [← hWn]
        clear hWn x0 x1 x2 x3 x4 x5 cS fS cR fR
        refine ⟨trivial, (CallsIn.inRound l (callsIn_wide.2 (fits_any x.h x.a x.kids.len x.c Wn (x.hh.sub (Sub.of_below hBn))))).mono ?_⟩
        rintro r W2 ⟨⟨ft, rfl, hft⟩, hb2⟩
        have HFt : Hid (ft = true ↔ one x.h x.kids.len) := hft
        clear hft
        have hB2 := hBn.trans (hb2.mono hBn.size)
        have cR2 : W2.heap[w.heap.size + 1]? = some (.cells #[.bool false] 4 (0, 0)) := (hb2.block _ (Array.getElem?_eq_some_iff.1 hRn).1).trans hRn
        have hKo2 : KeepsOthers W W2 := hKo.trans (KeepsOthers.of_grownBy (grown_below hb2) (fun j o e => by cases e))
        cases ft
        · have cR3 := (show Boxed W2 (w.heap.size + 1) 4 (.bool false) from cR2).cell
          have fR3 := (show Boxed W2 (w.heap.size + 1) 4 (.bool false) from cR2).frozen
          gi_wp2_with fail
          refine ⟨(hKo2.trans (KeepsOthers.setCell _ _ _)).from _, ⟨⟨rfl, fun hgd => ?_⟩, Boxed.set (.bool false) (show Boxed W2 (w.heap.size + 1) 4 (.bool false) from cR2)⟩, hB2.setCell (p := ⟨w.heap.size + 1, 0, none⟩) (by show _ ≤ _ + 1; omega) _⟩
          have := HFt.out.2 (hgd.2 x (by simp)).2
          cases this
        · gi_wp2_with fail
          refine ⟨hKo2.from _, hKn.trans (Kept.of_below hb2), ⟨⟨cR2, (hb2.block _ (Array.getElem?_eq_some_iff.1 hSn).1).trans hSn⟩, ⟨by simp; omega, fun y hy => ?_⟩, by have := hb2.size; omega⟩, hB2⟩
          rcases List.mem_append.1 hy with hy | hy
          · exact hg.2 y hy
          · obtain rfl : y = x := by simpa using hy
            exact ⟨q2, HFt.out.1 (by trivial)⟩
      · have q2' : (20 : Int) < (x.d : Int) := by omega
        gi_wp2_with fail
        refine ⟨trivial, ?_⟩
        gi_wp2_with fail
        rw [← hWn]
        refine ⟨(hKo.trans (KeepsOthers.setCell _ _ _)).from _, ⟨⟨rfl, fun hgd => ?_⟩, Boxed.set (.bool false) (show Boxed Wn (w.heap.size + 1) 4 (.bool false) from hRn)⟩, hBn.setCell (p := ⟨w.heap.size + 1, 0, none⟩) (by show _ ≤ _ + 1; omega) _⟩
        exact absurd (hgd.2 x (by simp)).1 q2
    · have q1' : (200 : Int) < (pre.length : Int) + 1 := by omega
      gi_wp2_with fail
      refine ⟨trivial, ?_⟩
      gi_wp2_with fail
      rw [← hWn]
      refine ⟨(hKo.trans (KeepsOthers.setCell _ _ _)).from _, ⟨⟨rfl, fun hgd => ?_⟩, Boxed.set (.bool false) (show Boxed Wn (w.heap.size + 1) 4 (.bool false) from hRn)⟩, hBn.setCell (p := ⟨w.heap.size + 1, 0, none⟩) (by show _ ≤ _ + 1; omega) _⟩
      have := hgd.1
      simp at this
      omega
  case done =>
    rintro D ys W hD hS ⟨⟨⟨hR, _⟩, hg, _⟩, hB⟩ hK
    have cR := (show Boxed W (w.heap.size + 1) 4 (.bool false) from hR).cell
    have fR := (show Boxed W (w.heap.size + 1) 4 (.bool false) from hR).frozen
    gi_wp2
    have hK' := (KeepsOthers.setCell W ⟨w.heap.size + 1, 0, none⟩ (.bool true)).same D _ hK rfl
    refine ⟨by simp, .inl ⟨_, _, rfl, run_takeDeferred hK', ?_⟩⟩
    have hc5 := cell_kept (Boxed.set (.bool true) (show Boxed W (w.heap.size + 1) 4 (.bool false) from hR)).cell (grownBy_putObj' _ D (.deferred none)) (fun r e => by cases e; exact ⟨_, hK', rfl⟩)
    refine ⟨.bool true, ?_, ⟨true, rfl, ?_⟩, (hB.setCell (p := ⟨w.heap.size + 1, 0, none⟩) (by show _ ≤ _ + 1; omega) _).trans (belowK_b (w := w) (Nat.le_refl _) _ D _ _ (by omega) hK' rfl rfl)⟩
    · simp [results, Try.results25, go_sem, hc5]
    · have hS' : ys.map TV.raw = (1, h, F) :: F.flat 2 := hS
      unfold ValGood
      rw [← hS']
      refine ⟨fun _ => ⟨by rw [List.length_map]; exact hg.1, fun z hz => ?_⟩, fun _ => rfl⟩
      obtain ⟨y, hy, rfl⟩ := List.mem_map.1 hz
      exact hg.2 y hy
  case stop =>
    rintro D cd pre W hD hpre ⟨⟨⟨rfl, hng⟩, hR⟩, hB⟩ hK
    gi_wp2
    refine ⟨by simp, .inl ⟨_, _, rfl, run_takeDeferred hK, ?_⟩⟩
    have hc5 := cell_kept (show Boxed W (w.heap.size + 1) 4 (.bool false) from hR).cell (grownBy_putObj' _ D (.deferred none)) (fun r e => by cases e; exact ⟨_, hK, rfl⟩)
    refine ⟨.bool false, ?_, ⟨false, rfl, ?_⟩, hB.trans (belowK_b (w := w) (Nat.le_refl _) W D _ _ (by omega) hK rfl rfl)⟩
    · simp [results, Try.results25, go_sem, hc5]
    · have hS' : pre.map TV.raw <+: (1, h, F) :: F.flat 2 := hpre
      refine ⟨fun h => (by cases h), fun h => absurd (⟨?_, fun y hy => ?_⟩ : GoodV pre) hng⟩
      · have := hS'.length_le
        have h1 := h.1
        rw [List.length_map] at this
        omega
      · exact h.2 y.raw (hS'.subset (List.mem_map.2 ⟨y, hy, rfl⟩))
end Go.Proofs.Ytpgpkdeiapeoiaa
