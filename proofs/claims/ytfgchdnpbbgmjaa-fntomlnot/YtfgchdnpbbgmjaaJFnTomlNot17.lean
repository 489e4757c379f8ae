/- My own texts, joined: Ih Ii If Ig. -/
import Derived.Test.YtfgchdnpbbgmjaaJFnTomlNot16
import Derived.Test.YtfgchdnpbbgmjaaJFnTomlNot15
import Derived.Test.YtfgchdnpbbgmjaaJFnTomlNot14
/- Values as lines, by the program: the regions of a writer that draw. -/
namespace Go.Proofs.Ytfgchdnpbbgmjaa
open Go.RowKit
set_option maxRecDepth 100000 in
set_option maxHeartbeats 1000000 in
theorem lo5 {Q : Exit → Act → World → Prop} {t0 t1 t2 t5 t7 t8 t9 t10 t11 t12 t13 t14 t15 t16 t17 t18 t19 t20 t21 t22 t23 t24 t25 t26 t27 t28 t29 t30 t31 t32 t33 t34 t35 t36 t37 t38 t39 t40 t41 t42 t43 t44 t45 t46 t47 t48 t49 t50 t51 t52 t53 t54 t55 t56 t57 t58 t59 t60 t61 t62 t63 t64 t65 t66 t67 t68 t69 t70 t71 t72 t73 t74 t75 t76 t77 t78 : Value} {W w0 : World} {B kb b3 b4 nb no j nc n c : Nat} {m e : Int} {t s : ByteArray} {ns : List ByteArray} {a : Option Addr} {acc : List UInt8}
    (h3 : Box W b3 78 [.pointer (some ⟨kb, 0, none⟩), .string ⟨#[92, 117, 48, 48]⟩, .string ⟨#[34, 92, 47, 98, 102, 110, 114, 116]⟩, .string ⟨#[34, 92, 47, 8, 12, 10, 13, 9]⟩, .int .i64 2, .string ⟨#[]⟩, .string ⟨#[]⟩]) (h4 : Box W b4 28 [.int .i64 6, .int .i64 m, .int .i64 e, .string t, .slice a n c, .slice (some ⟨nb, no, none⟩) ns.length nc]) (hs : W.cell? ⟨nb, no + j, none⟩ = some (.string s)) (hnb : nb < B) (hj : (j : Int) < (ns.length : Int)) (hne3 : b3 ≠ kb) (hne4 : b4 ≠ kb) (hW : Wr B kb w0 acc W) (hz : acc.length + s.size + 3 ≤ 100000000)
    (hp : ∀ p d v a w, Q (.panic p) (Act.put a d v) w → Q (.panic p) a w) (h_ : ∀ ws v21 v22 v23 v24 v25 v26 v27 v28 v29 v30 v31, Wr B kb w0 (acc ++ (s.data.toList ++ [32, 61, 32])) ws → Lib.OthersKept 5 (some kb) W ws → Q .normal { tmps := (t0 :: t1 :: t2 :: (.pointer (some ⟨b3, 0, none⟩)) :: (.pointer (some ⟨b4, 0, none⟩)) :: t5 :: (.int .i64 (j : Nat)) :: t7 :: t8 :: t9 :: t10 :: t11 :: t12 :: t13 :: t14 :: t15 :: t16 :: t17 :: t18 :: t19 :: t20 :: v21 :: v22 :: v23 :: v24 :: v25 :: v26 :: v27 :: v28 :: v29 :: v30 :: v31 :: t32 :: t33 :: t34 :: t35 :: t36 :: t37 :: t38 :: t39 :: t40 :: t41 :: t42 :: t43 :: t44 :: t45 :: t46 :: t47 :: t48 :: t49 :: t50 :: t51 :: t52 :: t53 :: t54 :: t55 :: t56 :: t57 :: t58 :: t59 :: t60 :: t61 :: t62 :: t63 :: t64 :: t65 :: t66 :: t67 :: t68 :: t69 :: t70 :: t71 :: t72 :: t73 :: t74 :: t75 :: t76 :: t77 :: t78 :: []).toArray, defers := [] } ws) :
    Code.wp Try.prog (Code.region 5 #[{ dst := some 21, op := Op.fieldAddr 78 (Operand.tmp 3) 0, type := 0, pos := "l12_out.go:134", after := #[], guard := none }, { dst := some 22, op := Op.fieldAddr 76 (Operand.tmp 21) 0, type := 0, pos := "l12_out.go:134", after := #[{ on := 0, ground := Ground.data }], guard := none }, { dst := some 23, op := Op.load 70 (Operand.tmp 22), type := 70, pos := "l12_out.go:134", after := #[{ on := 1, ground := Ground.data }], guard := none }, { dst := some 24, op := Op.makeInterface 70 (Operand.tmp 23), type := 20, pos := "l12_out.go:134", after := #[{ on := 2, ground := Ground.data }], guard := none }, { dst := some 25, op := Op.fieldAddr 28 (Operand.tmp 4) 4, type := 0, pos := "l12_out.go:134", after := #[], guard := none }, { dst := some 26, op := Op.load 26 (Operand.tmp 25), type := 26, pos := "l12_out.go:134", after := #[{ on := 4, ground := Ground.data }], guard := none }, { dst := some 27, op := Op.move (Operand.tmp 6), type := 3, pos := "l12_out.go:134", after := #[], guard := none }, { dst := some 28, op := Op.indexAddr 26 (Operand.tmp 26) (Operand.tmp 27), type := 0, pos := "l12_out.go:134", after := #[{ on := 5, ground := Ground.data }, { on := 6, ground := Ground.data }], guard := none }, { dst := some 29, op := Op.load 9 (Operand.tmp 28), type := 9, pos := "l12_out.go:134", after := #[{ on := 7, ground := Ground.data }], guard := none }, { dst := some 30, op := Op.binOp BinOp.add 9 (Operand.tmp 29) (Operand.const (Value.string { data := #[32, 61, 32] })) 9, type := 9, pos := "l12_out.go:134", after := #[{ on := 8, ground := Ground.data }], guard := none }, { dst := some 31, op := Op.call { callee := Callee.invoke (Operand.tmp 24) "WriteString", args := #[Operand.tmp 30], argTypes := #[9] }, type := 103, pos := "l12_out.go:134", after := #[{ on := 3, ground := Ground.data }, { on := 9, ground := Ground.data }], guard := none }] true) Q { tmps := (t0 :: t1 :: t2 :: (.pointer (some ⟨b3, 0, none⟩)) :: (.pointer (some ⟨b4, 0, none⟩)) :: t5 :: (.int .i64 (j : Nat)) :: t7 :: t8 :: t9 :: t10 :: t11 :: t12 :: t13 :: t14 :: t15 :: t16 :: t17 :: t18 :: t19 :: t20 :: t21 :: t22 :: t23 :: t24 :: t25 :: t26 :: t27 :: t28 :: t29 :: t30 :: t31 :: t32 :: t33 :: t34 :: t35 :: t36 :: t37 :: t38 :: t39 :: t40 :: t41 :: t42 :: t43 :: t44 :: t45 :: t46 :: t47 :: t48 :: t49 :: t50 :: t51 :: t52 :: t53 :: t54 :: t55 :: t56 :: t57 :: t58 :: t59 :: t60 :: t61 :: t62 :: t63 :: t64 :: t65 :: t66 :: t67 :: t68 :: t69 :: t70 :: t71 :: t72 :: t73 :: t74 :: t75 :: t76 :: t77 :: t78 :: []).toArray, defers := [] } W := by
  have hmeth := write_method
  have HSof : Hid (∀ w', Below W.heap.size W w' → (Box w' b3 78 [.pointer (some ⟨kb, 0, none⟩), .string ⟨#[92, 117, 48, 48]⟩, .string ⟨#[34, 92, 47, 98, 102, 110, 114, 116]⟩, .string ⟨#[34, 92, 47, 8, 12, 10, 13, 9]⟩, .int .i64 2, .string ⟨#[]⟩, .string ⟨#[]⟩] ∧ Box w' b4 28 [.int .i64 6, .int .i64 m, .int .i64 e, .string t, .slice a n c, .slice (some ⟨nb, no, none⟩) ns.length nc]) ∧ w'.cell? ⟨nb, no + j, none⟩ = some (.string s)) := fun w' h => ⟨⟨h3.below h h3.lt, h4.below h h4.lt⟩, (h.cell (p := ⟨nb, no + j, none⟩) (World.block_lt_of_cell? _ _ hs)).trans hs⟩
  have HW : Hid (∀ w', Below W.heap.size W w' → Wr B kb w0 acc w') := fun w' h => hW.below h
  have HNb := hideIt hnb
  have hB0 := (Below.refl W.heap.size W).drew
  have hS0 := HSof.out _ hB0
  have HN := hideIt (And.intro hne3 hne4)
  clear h3 h4 hs hnb hne3 hne4 hW
  refine wp_region_held_drew (S := fun w' => (Box w' b3 78 [.pointer (some ⟨kb, 0, none⟩), .string ⟨#[92, 117, 48, 48]⟩, .string ⟨#[34, 92, 47, 98, 102, 110, 114, 116]⟩, .string ⟨#[34, 92, 47, 8, 12, 10, 13, 9]⟩, .int .i64 2, .string ⟨#[]⟩, .string ⟨#[]⟩] ∧ Box w' b4 28 [.int .i64 6, .int .i64 m, .int .i64 e, .string t, .slice a n c, .slice (some ⟨nb, no, none⟩) ns.length nc]) ∧ w'.cell? ⟨nb, no + j, none⟩ = some (.string s)) (by kernel_rfl) hS0 (fun hHeld => ?_)
  refine wpAnyH_take (i := 0) (v := .pointer (some ⟨b3, 0, none⟩)) rfl (by kernel_rfl) (by kernel_rfl) (by kernel_rfl) (fun _ _ _ h => hp _ _ _ _ _ h) (Or.inl ⟨by rfl, ?_⟩) (by assumption) ?_
  · intro w hSw
    (try dsimp only at hSw)
    (obtain ⟨⟨q3, q4⟩, qs⟩ := hSw; have x0 := q3.cell (i := 0) rfl; have x1 := q3.cell (i := 1) rfl; have x2 := q3.cell (i := 2) rfl; have x3 := q3.cell (i := 3) rfl; have x4 := q3.cell (i := 4) rfl; have x5 := q3.cell (i := 5) rfl; have x6 := q3.cell (i := 6) rfl; have y5 := q4.cell (i := 5) rfl; go_simp)
  (try simp only [Act.put, List.getElem_toArray, List.getElem_cons_zero, List.setIfInBounds_toArray, List.set_cons_zero, List.set_cons_succ])
  refine wpAnyH_take (i := 1) (v := .pointer (some ⟨b3, 0, none⟩)) rfl (by kernel_rfl) (by kernel_rfl) (by kernel_rfl) (fun _ _ _ h => hp _ _ _ _ _ h) (Or.inl ⟨by rfl, ?_⟩) (by assumption) ?_
  · intro w hSw
    (try dsimp only at hSw)
    (obtain ⟨⟨q3, q4⟩, qs⟩ := hSw; have x0 := q3.cell (i := 0) rfl; have x1 := q3.cell (i := 1) rfl; have x2 := q3.cell (i := 2) rfl; have x3 := q3.cell (i := 3) rfl; have x4 := q3.cell (i := 4) rfl; have x5 := q3.cell (i := 5) rfl; have x6 := q3.cell (i := 6) rfl; have y5 := q4.cell (i := 5) rfl; go_simp)
  (try simp only [Act.put, List.getElem_toArray, List.getElem_cons_zero, List.getElem_cons_succ, List.setIfInBounds_toArray, List.set_cons_zero, List.set_cons_succ])
  refine wpAnyH_take (i := 2) (v := .pointer (some ⟨kb, 0, none⟩)) rfl (by kernel_rfl) (by kernel_rfl) (by kernel_rfl) (fun _ _ _ h => hp _ _ _ _ _ h) (Or.inl ⟨by rfl, ?_⟩) (by assumption) ?_
  · intro w hSw
    (try dsimp only at hSw)
    (obtain ⟨⟨q3, q4⟩, qs⟩ := hSw; have x0 := q3.cell (i := 0) rfl; have x1 := q3.cell (i := 1) rfl; have x2 := q3.cell (i := 2) rfl; have x3 := q3.cell (i := 3) rfl; have x4 := q3.cell (i := 4) rfl; have x5 := q3.cell (i := 5) rfl; have x6 := q3.cell (i := 6) rfl; have y5 := q4.cell (i := 5) rfl; go_simp)
  (try simp only [Act.put, List.getElem_toArray, List.getElem_cons_zero, List.getElem_cons_succ, List.setIfInBounds_toArray, List.set_cons_zero, List.set_cons_succ])
  refine wpAnyH_take (i := 3) (v := .iface 70 (.pointer (some ⟨kb, 0, none⟩))) rfl (by kernel_rfl) (by kernel_rfl) (by kernel_rfl) (fun _ _ _ h => hp _ _ _ _ _ h) (Or.inl ⟨by rfl, ?_⟩) (by assumption) ?_
  · intro w hSw
    (try dsimp only at hSw)
    (obtain ⟨⟨q3, q4⟩, qs⟩ := hSw; have x0 := q3.cell (i := 0) rfl; have x1 := q3.cell (i := 1) rfl; have x2 := q3.cell (i := 2) rfl; have x3 := q3.cell (i := 3) rfl; have x4 := q3.cell (i := 4) rfl; have x5 := q3.cell (i := 5) rfl; have x6 := q3.cell (i := 6) rfl; have y5 := q4.cell (i := 5) rfl; go_simp)
  (try simp only [Act.put, List.getElem_toArray, List.getElem_cons_zero, List.getElem_cons_succ, List.setIfInBounds_toArray, List.set_cons_zero, List.set_cons_succ])
  refine wpAnyH_take (i := 4) (v := .pointer (some ⟨b4, 5, none⟩)) rfl (by kernel_rfl) (by kernel_rfl) (by kernel_rfl) (fun _ _ _ h => hp _ _ _ _ _ h) (Or.inl ⟨by rfl, ?_⟩) (by assumption) ?_
  · intro w hSw
    (try dsimp only at hSw)
    (obtain ⟨⟨q3, q4⟩, qs⟩ := hSw; have x0 := q3.cell (i := 0) rfl; have x1 := q3.cell (i := 1) rfl; have x2 := q3.cell (i := 2) rfl; have x3 := q3.cell (i := 3) rfl; have x4 := q3.cell (i := 4) rfl; have x5 := q3.cell (i := 5) rfl; have x6 := q3.cell (i := 6) rfl; have y5 := q4.cell (i := 5) rfl; go_simp)
  (try simp only [Act.put, List.getElem_toArray, List.getElem_cons_zero, List.getElem_cons_succ, List.setIfInBounds_toArray, List.set_cons_zero, List.set_cons_succ])
  refine wpAnyH_take (i := 5) (v := .slice (some ⟨nb, no, none⟩) ns.length nc) rfl (by kernel_rfl) (by kernel_rfl) (by kernel_rfl) (fun _ _ _ h => hp _ _ _ _ _ h) (Or.inl ⟨by rfl, ?_⟩) (by assumption) ?_
  · intro w hSw
    (try dsimp only at hSw)
    (obtain ⟨⟨q3, q4⟩, qs⟩ := hSw; have x0 := q3.cell (i := 0) rfl; have x1 := q3.cell (i := 1) rfl; have x2 := q3.cell (i := 2) rfl; have x3 := q3.cell (i := 3) rfl; have x4 := q3.cell (i := 4) rfl; have x5 := q3.cell (i := 5) rfl; have x6 := q3.cell (i := 6) rfl; have y5 := q4.cell (i := 5) rfl; go_simp)
  (try simp only [Act.put, List.getElem_toArray, List.getElem_cons_zero, List.getElem_cons_succ, List.setIfInBounds_toArray, List.set_cons_zero, List.set_cons_succ])
  refine wpAnyH_take (i := 6) (v := .int .i64 (j : Nat)) rfl (by kernel_rfl) (by kernel_rfl) (by kernel_rfl) (fun _ _ _ h => hp _ _ _ _ _ h) (Or.inl ⟨by rfl, ?_⟩) (by assumption) ?_
  · intro w hSw
    (try dsimp only at hSw)
    (obtain ⟨⟨q3, q4⟩, qs⟩ := hSw; have x0 := q3.cell (i := 0) rfl; have x1 := q3.cell (i := 1) rfl; have x2 := q3.cell (i := 2) rfl; have x3 := q3.cell (i := 3) rfl; have x4 := q3.cell (i := 4) rfl; have x5 := q3.cell (i := 5) rfl; have x6 := q3.cell (i := 6) rfl; have y5 := q4.cell (i := 5) rfl; go_simp)
  (try simp only [Act.put, List.getElem_toArray, List.getElem_cons_zero, List.getElem_cons_succ, List.setIfInBounds_toArray, List.set_cons_zero, List.set_cons_succ])
  refine wpAnyH_take (i := 7) (v := .pointer (some ⟨nb, no + j, none⟩)) rfl (by kernel_rfl) (by kernel_rfl) (by kernel_rfl) (fun _ _ _ h => hp _ _ _ _ _ h) (Or.inl ⟨by rfl, ?_⟩) (by assumption) ?_
  · intro w hSw
    (try dsimp only at hSw)
    (obtain ⟨⟨q3, q4⟩, qs⟩ := hSw; have x0 := q3.cell (i := 0) rfl; have x1 := q3.cell (i := 1) rfl; have x2 := q3.cell (i := 2) rfl; have x3 := q3.cell (i := 3) rfl; have x4 := q3.cell (i := 4) rfl; have x5 := q3.cell (i := 5) rfl; have x6 := q3.cell (i := 6) rfl; have y5 := q4.cell (i := 5) rfl; go_simp)
  (try simp only [Act.put, List.getElem_toArray, List.getElem_cons_zero, List.getElem_cons_succ, List.setIfInBounds_toArray, List.set_cons_zero, List.set_cons_succ])
  refine wpAnyH_take (i := 8) (v := .string s) rfl (by kernel_rfl) (by kernel_rfl) (by kernel_rfl) (fun _ _ _ h => hp _ _ _ _ _ h) (Or.inl ⟨by rfl, ?_⟩) (by assumption) ?_
  · intro w hSw
    (try dsimp only at hSw)
    (obtain ⟨⟨q3, q4⟩, qs⟩ := hSw; have x0 := q3.cell (i := 0) rfl; have x1 := q3.cell (i := 1) rfl; have x2 := q3.cell (i := 2) rfl; have x3 := q3.cell (i := 3) rfl; have x4 := q3.cell (i := 4) rfl; have x5 := q3.cell (i := 5) rfl; have x6 := q3.cell (i := 6) rfl; have y5 := q4.cell (i := 5) rfl; go_simp)
  (try simp only [Act.put, List.getElem_toArray, List.getElem_cons_zero, List.getElem_cons_succ, List.setIfInBounds_toArray, List.set_cons_zero, List.set_cons_succ])
  refine wpAnyH_take (i := 9) (v := .string (s ++ ⟨#[32, 61, 32]⟩)) rfl (by kernel_rfl) (by kernel_rfl) (by kernel_rfl) (fun _ _ _ h => hp _ _ _ _ _ h) (Or.inl ⟨by rfl, ?_⟩) (by assumption) ?_
  · intro w hSw
    (try dsimp only at hSw)
    (obtain ⟨⟨q3, q4⟩, qs⟩ := hSw; have x0 := q3.cell (i := 0) rfl; have x1 := q3.cell (i := 1) rfl; have x2 := q3.cell (i := 2) rfl; have x3 := q3.cell (i := 3) rfl; have x4 := q3.cell (i := 4) rfl; have x5 := q3.cell (i := 5) rfl; have x6 := q3.cell (i := 6) rfl; have y5 := q4.cell (i := 5) rfl; go_simp; omega)
  (try simp only [Act.put, List.getElem_toArray, List.getElem_cons_zero, List.getElem_cons_succ, List.setIfInBounds_toArray, List.set_cons_zero, List.set_cons_succ])
  refine wpAnyH_ready (rs := [10]) (by kernel_rfl) (by simp) ?_
  refine AllReadyH.cons rfl (fun K hK => ?_) AllReadyH.nil
  go_simp
  refine (Wr.text (HW.out _ hB0) _ (l := (s.data.toList ++ [32, 61, 32])) (by simp [ByteArray.data_append]) (by simp only [List.length_append, List.length_cons, List.length_nil]; have := Qm.len_eq s; omega)).mono ?_
  rintro r w2 ⟨rfl, hw3, hk2, hbB⟩
  have HW2 := hideIt hw3
  have HK2 := hideIt (kept_trans (kept_of_below hB0) hk2)
  have hS2 : Hid ((fun w' => (Box w' b3 78 [.pointer (some ⟨kb, 0, none⟩), .string ⟨#[92, 117, 48, 48]⟩, .string ⟨#[34, 92, 47, 98, 102, 110, 114, 116]⟩, .string ⟨#[34, 92, 47, 8, 12, 10, 13, 9]⟩, .int .i64 2, .string ⟨#[]⟩, .string ⟨#[]⟩] ∧ Box w' b4 28 [.int .i64 6, .int .i64 m, .int .i64 e, .string t, .slice a n c, .slice (some ⟨nb, no, none⟩) ns.length nc]) ∧ w'.cell? ⟨nb, no + j, none⟩ = some (.string s)) w2) := by
    obtain ⟨⟨q3, q4⟩, qs⟩ := HSof.out _ hB0
    exact ⟨⟨q3.kept hk2 HN.out.1 (by decide), q4.kept hk2 HN.out.2 (by decide)⟩, (hbB.cell (p := ⟨nb, no + j, none⟩) HNb.out).trans qs⟩
  clear hw3 hk2 hbB
  go_wp2_with fail
  refine hK.out _ _ hS2.out (fun hHeld => ?_)
  clear hK K
  refine wpAnyH_done (by kernel_rfl) ?_ _
  exact h_ _ _ _ _ _ _ _ _ _ _ _ _ HW2.out HK2.out
set_option maxRecDepth 100000 in
set_option maxHeartbeats 1000000 in
theorem lo13 {Q : Exit → Act → World → Prop} {t0 t1 t5 t6 t7 t9 t10 t11 t12 t13 t14 t15 t16 t17 t18 t19 t20 t21 t22 t23 t24 t25 t26 t27 t28 t29 t30 t31 t32 t33 t34 t35 t36 t37 t38 t39 t40 t41 t42 t43 t44 t45 t46 t47 t48 t49 t50 t51 t52 t53 t54 t55 t56 t57 t58 t59 t60 t61 t62 t63 t64 t65 t66 t67 t68 t69 t70 t71 t72 t73 t74 t75 t76 t77 t78 : Value} {W w0 : World} {B kb b3 b4 nb no j nc n c : Nat} {m e : Int} {t s : ByteArray} {ns : List ByteArray} {a : Option Addr} {acc : List UInt8} {pa : ByteArray}
    (h3 : Box W b3 78 [.pointer (some ⟨kb, 0, none⟩), .string ⟨#[92, 117, 48, 48]⟩, .string ⟨#[34, 92, 47, 98, 102, 110, 114, 116]⟩, .string ⟨#[34, 92, 47, 8, 12, 10, 13, 9]⟩, .int .i64 2, .string ⟨#[]⟩, .string ⟨#[]⟩]) (h4 : Box W b4 28 [.int .i64 6, .int .i64 m, .int .i64 e, .string t, .slice a n c, .slice (some ⟨nb, no, none⟩) ns.length nc]) (hs : W.cell? ⟨nb, no + j, none⟩ = some (.string s)) (hnb : nb < B) (hj : (j : Int) < (ns.length : Int)) (hne3 : b3 ≠ kb) (hne4 : b4 ≠ kb) (hW : Wr B kb w0 acc W) (hz : acc.length + pa.size + s.size + 3 ≤ 100000000)
    (hp : ∀ p d v a w, Q (.panic p) (Act.put a d v) w → Q (.panic p) a w) (h_ : ∀ ws v53 v54 v55 v56 v57 v58 v59 v60 v61 v62 v63 v64 v65 v66, Wr B kb w0 (acc ++ ([91] ++ ((pa.data.toList ++ s.data.toList) ++ [93, 10]))) ws → Lib.OthersKept 5 (some kb) W ws → Q .normal { tmps := (t0 :: t1 :: (.string pa) :: (.pointer (some ⟨b3, 0, none⟩)) :: (.pointer (some ⟨b4, 0, none⟩)) :: t5 :: t6 :: t7 :: (.int .i64 (j : Nat)) :: t9 :: t10 :: t11 :: t12 :: t13 :: t14 :: t15 :: t16 :: t17 :: t18 :: t19 :: t20 :: t21 :: t22 :: t23 :: t24 :: t25 :: t26 :: t27 :: t28 :: t29 :: t30 :: t31 :: t32 :: t33 :: t34 :: t35 :: t36 :: t37 :: t38 :: t39 :: t40 :: t41 :: t42 :: t43 :: t44 :: t45 :: t46 :: t47 :: t48 :: t49 :: t50 :: t51 :: t52 :: v53 :: v54 :: v55 :: v56 :: v57 :: v58 :: v59 :: v60 :: v61 :: v62 :: v63 :: v64 :: v65 :: v66 :: t67 :: t68 :: t69 :: t70 :: t71 :: t72 :: t73 :: t74 :: t75 :: t76 :: t77 :: t78 :: []).toArray, defers := [] } ws) :
    Code.wp Try.prog (Code.region 13 #[{ dst := some 53, op := Op.fieldAddr 78 (Operand.tmp 3) 0, type := 0, pos := "l12_out.go:141", after := #[], guard := none }, { dst := some 54, op := Op.fieldAddr 76 (Operand.tmp 53) 0, type := 0, pos := "l12_out.go:141", after := #[{ on := 0, ground := Ground.data }], guard := none }, { dst := some 55, op := Op.load 70 (Operand.tmp 54), type := 70, pos := "l12_out.go:141", after := #[{ on := 1, ground := Ground.data }], guard := none }, { dst := some 56, op := Op.makeInterface 70 (Operand.tmp 55), type := 20, pos := "l12_out.go:141", after := #[{ on := 2, ground := Ground.data }], guard := none }, { dst := some 57, op := Op.move (Operand.tmp 2), type := 9, pos := "l12_out.go:141", after := #[], guard := none }, { dst := some 58, op := Op.binOp BinOp.add 9 (Operand.const (Value.string { data := #[91] })) (Operand.tmp 57) 9, type := 9, pos := "l12_out.go:141", after := #[{ on := 4, ground := Ground.data }], guard := none }, { dst := some 59, op := Op.fieldAddr 28 (Operand.tmp 4) 4, type := 0, pos := "l12_out.go:141", after := #[], guard := none }, { dst := some 60, op := Op.load 26 (Operand.tmp 59), type := 26, pos := "l12_out.go:141", after := #[{ on := 6, ground := Ground.data }], guard := none }, { dst := some 61, op := Op.move (Operand.tmp 8), type := 3, pos := "l12_out.go:141", after := #[], guard := none }, { dst := some 62, op := Op.indexAddr 26 (Operand.tmp 60) (Operand.tmp 61), type := 0, pos := "l12_out.go:141", after := #[{ on := 7, ground := Ground.data }, { on := 8, ground := Ground.data }], guard := none }, { dst := some 63, op := Op.load 9 (Operand.tmp 62), type := 9, pos := "l12_out.go:141", after := #[{ on := 9, ground := Ground.data }], guard := none }, { dst := some 64, op := Op.binOp BinOp.add 9 (Operand.tmp 58) (Operand.tmp 63) 9, type := 9, pos := "l12_out.go:141", after := #[{ on := 5, ground := Ground.data }, { on := 10, ground := Ground.data }], guard := none }, { dst := some 65, op := Op.binOp BinOp.add 9 (Operand.tmp 64) (Operand.const (Value.string { data := #[93, 10] })) 9, type := 9, pos := "l12_out.go:141", after := #[{ on := 11, ground := Ground.data }], guard := none }, { dst := some 66, op := Op.call { callee := Callee.invoke (Operand.tmp 56) "WriteString", args := #[Operand.tmp 65], argTypes := #[9] }, type := 103, pos := "l12_out.go:141", after := #[{ on := 3, ground := Ground.data }, { on := 12, ground := Ground.data }], guard := none }] true) Q { tmps := (t0 :: t1 :: (.string pa) :: (.pointer (some ⟨b3, 0, none⟩)) :: (.pointer (some ⟨b4, 0, none⟩)) :: t5 :: t6 :: t7 :: (.int .i64 (j : Nat)) :: t9 :: t10 :: t11 :: t12 :: t13 :: t14 :: t15 :: t16 :: t17 :: t18 :: t19 :: t20 :: t21 :: t22 :: t23 :: t24 :: t25 :: t26 :: t27 :: t28 :: t29 :: t30 :: t31 :: t32 :: t33 :: t34 :: t35 :: t36 :: t37 :: t38 :: t39 :: t40 :: t41 :: t42 :: t43 :: t44 :: t45 :: t46 :: t47 :: t48 :: t49 :: t50 :: t51 :: t52 :: t53 :: t54 :: t55 :: t56 :: t57 :: t58 :: t59 :: t60 :: t61 :: t62 :: t63 :: t64 :: t65 :: t66 :: t67 :: t68 :: t69 :: t70 :: t71 :: t72 :: t73 :: t74 :: t75 :: t76 :: t77 :: t78 :: []).toArray, defers := [] } W := by
  have hmeth := write_method
  have HSof : Hid (∀ w', Below W.heap.size W w' → (Box w' b3 78 [.pointer (some ⟨kb, 0, none⟩), .string ⟨#[92, 117, 48, 48]⟩, .string ⟨#[34, 92, 47, 98, 102, 110, 114, 116]⟩, .string ⟨#[34, 92, 47, 8, 12, 10, 13, 9]⟩, .int .i64 2, .string ⟨#[]⟩, .string ⟨#[]⟩] ∧ Box w' b4 28 [.int .i64 6, .int .i64 m, .int .i64 e, .string t, .slice a n c, .slice (some ⟨nb, no, none⟩) ns.length nc]) ∧ w'.cell? ⟨nb, no + j, none⟩ = some (.string s)) := fun w' h => ⟨⟨h3.below h h3.lt, h4.below h h4.lt⟩, (h.cell (p := ⟨nb, no + j, none⟩) (World.block_lt_of_cell? _ _ hs)).trans hs⟩
  have HW : Hid (∀ w', Below W.heap.size W w' → Wr B kb w0 acc w') := fun w' h => hW.below h
  have HNb := hideIt hnb
  have hB0 := (Below.refl W.heap.size W).drew
  have hS0 := HSof.out _ hB0
  have HN := hideIt (And.intro hne3 hne4)
  clear h3 h4 hs hnb hne3 hne4 hW
  refine wp_region_held_drew (S := fun w' => (Box w' b3 78 [.pointer (some ⟨kb, 0, none⟩), .string ⟨#[92, 117, 48, 48]⟩, .string ⟨#[34, 92, 47, 98, 102, 110, 114, 116]⟩, .string ⟨#[34, 92, 47, 8, 12, 10, 13, 9]⟩, .int .i64 2, .string ⟨#[]⟩, .string ⟨#[]⟩] ∧ Box w' b4 28 [.int .i64 6, .int .i64 m, .int .i64 e, .string t, .slice a n c, .slice (some ⟨nb, no, none⟩) ns.length nc]) ∧ w'.cell? ⟨nb, no + j, none⟩ = some (.string s)) (by kernel_rfl) hS0 (fun hHeld => ?_)
  refine wpAnyH_take (i := 0) (v := .pointer (some ⟨b3, 0, none⟩)) rfl (by kernel_rfl) (by kernel_rfl) (by kernel_rfl) (fun _ _ _ h => hp _ _ _ _ _ h) (Or.inl ⟨by rfl, ?_⟩) (by assumption) ?_
  · intro w hSw
    (try dsimp only at hSw)
    (obtain ⟨⟨q3, q4⟩, qs⟩ := hSw; have x0 := q3.cell (i := 0) rfl; have x1 := q3.cell (i := 1) rfl; have x2 := q3.cell (i := 2) rfl; have x3 := q3.cell (i := 3) rfl; have x4 := q3.cell (i := 4) rfl; have x5 := q3.cell (i := 5) rfl; have x6 := q3.cell (i := 6) rfl; have y5 := q4.cell (i := 5) rfl; go_simp)
  (try simp only [Act.put, List.getElem_toArray, List.getElem_cons_zero, List.setIfInBounds_toArray, List.set_cons_zero, List.set_cons_succ])
  refine wpAnyH_take (i := 1) (v := .pointer (some ⟨b3, 0, none⟩)) rfl (by kernel_rfl) (by kernel_rfl) (by kernel_rfl) (fun _ _ _ h => hp _ _ _ _ _ h) (Or.inl ⟨by rfl, ?_⟩) (by assumption) ?_
  · intro w hSw
    (try dsimp only at hSw)
    (obtain ⟨⟨q3, q4⟩, qs⟩ := hSw; have x0 := q3.cell (i := 0) rfl; have x1 := q3.cell (i := 1) rfl; have x2 := q3.cell (i := 2) rfl; have x3 := q3.cell (i := 3) rfl; have x4 := q3.cell (i := 4) rfl; have x5 := q3.cell (i := 5) rfl; have x6 := q3.cell (i := 6) rfl; have y5 := q4.cell (i := 5) rfl; go_simp)
  (try simp only [Act.put, List.getElem_toArray, List.getElem_cons_zero, List.getElem_cons_succ, List.setIfInBounds_toArray, List.set_cons_zero, List.set_cons_succ])
  refine wpAnyH_take (i := 2) (v := .pointer (some ⟨kb, 0, none⟩)) rfl (by kernel_rfl) (by kernel_rfl) (by kernel_rfl) (fun _ _ _ h => hp _ _ _ _ _ h) (Or.inl ⟨by rfl, ?_⟩) (by assumption) ?_
  · intro w hSw
    (try dsimp only at hSw)
    (obtain ⟨⟨q3, q4⟩, qs⟩ := hSw; have x0 := q3.cell (i := 0) rfl; have x1 := q3.cell (i := 1) rfl; have x2 := q3.cell (i := 2) rfl; have x3 := q3.cell (i := 3) rfl; have x4 := q3.cell (i := 4) rfl; have x5 := q3.cell (i := 5) rfl; have x6 := q3.cell (i := 6) rfl; have y5 := q4.cell (i := 5) rfl; go_simp)
  (try simp only [Act.put, List.getElem_toArray, List.getElem_cons_zero, List.getElem_cons_succ, List.setIfInBounds_toArray, List.set_cons_zero, List.set_cons_succ])
  refine wpAnyH_take (i := 3) (v := .iface 70 (.pointer (some ⟨kb, 0, none⟩))) rfl (by kernel_rfl) (by kernel_rfl) (by kernel_rfl) (fun _ _ _ h => hp _ _ _ _ _ h) (Or.inl ⟨by rfl, ?_⟩) (by assumption) ?_
  · intro w hSw
    (try dsimp only at hSw)
    (obtain ⟨⟨q3, q4⟩, qs⟩ := hSw; have x0 := q3.cell (i := 0) rfl; have x1 := q3.cell (i := 1) rfl; have x2 := q3.cell (i := 2) rfl; have x3 := q3.cell (i := 3) rfl; have x4 := q3.cell (i := 4) rfl; have x5 := q3.cell (i := 5) rfl; have x6 := q3.cell (i := 6) rfl; have y5 := q4.cell (i := 5) rfl; go_simp)
  (try simp only [Act.put, List.getElem_toArray, List.getElem_cons_zero, List.getElem_cons_succ, List.setIfInBounds_toArray, List.set_cons_zero, List.set_cons_succ])
  refine wpAnyH_take (i := 4) (v := .string pa) rfl (by kernel_rfl) (by kernel_rfl) (by kernel_rfl) (fun _ _ _ h => hp _ _ _ _ _ h) (Or.inl ⟨by rfl, ?_⟩) (by assumption) ?_
  · intro w hSw
    (try dsimp only at hSw)
    (obtain ⟨⟨q3, q4⟩, qs⟩ := hSw; have x0 := q3.cell (i := 0) rfl; have x1 := q3.cell (i := 1) rfl; have x2 := q3.cell (i := 2) rfl; have x3 := q3.cell (i := 3) rfl; have x4 := q3.cell (i := 4) rfl; have x5 := q3.cell (i := 5) rfl; have x6 := q3.cell (i := 6) rfl; have y5 := q4.cell (i := 5) rfl; go_simp)
  (try simp only [Act.put, List.getElem_toArray, List.getElem_cons_zero, List.getElem_cons_succ, List.setIfInBounds_toArray, List.set_cons_zero, List.set_cons_succ])
  refine wpAnyH_take (i := 5) (v := .string (⟨#[91]⟩ ++ pa)) rfl (by kernel_rfl) (by kernel_rfl) (by kernel_rfl) (fun _ _ _ h => hp _ _ _ _ _ h) (Or.inl ⟨by rfl, ?_⟩) (by assumption) ?_
  · intro w hSw
    (try dsimp only at hSw)
    (obtain ⟨⟨q3, q4⟩, qs⟩ := hSw; have x0 := q3.cell (i := 0) rfl; have x1 := q3.cell (i := 1) rfl; have x2 := q3.cell (i := 2) rfl; have x3 := q3.cell (i := 3) rfl; have x4 := q3.cell (i := 4) rfl; have x5 := q3.cell (i := 5) rfl; have x6 := q3.cell (i := 6) rfl; have y5 := q4.cell (i := 5) rfl; go_simp; omega)
  (try simp only [Act.put, List.getElem_toArray, List.getElem_cons_zero, List.getElem_cons_succ, List.setIfInBounds_toArray, List.set_cons_zero, List.set_cons_succ])
  refine wpAnyH_take (i := 6) (v := .pointer (some ⟨b4, 5, none⟩)) rfl (by kernel_rfl) (by kernel_rfl) (by kernel_rfl) (fun _ _ _ h => hp _ _ _ _ _ h) (Or.inl ⟨by rfl, ?_⟩) (by assumption) ?_
  · intro w hSw
    (try dsimp only at hSw)
    (obtain ⟨⟨q3, q4⟩, qs⟩ := hSw; have x0 := q3.cell (i := 0) rfl; have x1 := q3.cell (i := 1) rfl; have x2 := q3.cell (i := 2) rfl; have x3 := q3.cell (i := 3) rfl; have x4 := q3.cell (i := 4) rfl; have x5 := q3.cell (i := 5) rfl; have x6 := q3.cell (i := 6) rfl; have y5 := q4.cell (i := 5) rfl; go_simp)
  (try simp only [Act.put, List.getElem_toArray, List.getElem_cons_zero, List.getElem_cons_succ, List.setIfInBounds_toArray, List.set_cons_zero, List.set_cons_succ])
  refine wpAnyH_take (i := 7) (v := .slice (some ⟨nb, no, none⟩) ns.length nc) rfl (by kernel_rfl) (by kernel_rfl) (by kernel_rfl) (fun _ _ _ h => hp _ _ _ _ _ h) (Or.inl ⟨by rfl, ?_⟩) (by assumption) ?_
  · intro w hSw
    (try dsimp only at hSw)
    (obtain ⟨⟨q3, q4⟩, qs⟩ := hSw; have x0 := q3.cell (i := 0) rfl; have x1 := q3.cell (i := 1) rfl; have x2 := q3.cell (i := 2) rfl; have x3 := q3.cell (i := 3) rfl; have x4 := q3.cell (i := 4) rfl; have x5 := q3.cell (i := 5) rfl; have x6 := q3.cell (i := 6) rfl; have y5 := q4.cell (i := 5) rfl; go_simp)
  (try simp only [Act.put, List.getElem_toArray, List.getElem_cons_zero, List.getElem_cons_succ, List.setIfInBounds_toArray, List.set_cons_zero, List.set_cons_succ])
  refine wpAnyH_take (i := 8) (v := .int .i64 (j : Nat)) rfl (by kernel_rfl) (by kernel_rfl) (by kernel_rfl) (fun _ _ _ h => hp _ _ _ _ _ h) (Or.inl ⟨by rfl, ?_⟩) (by assumption) ?_
  · intro w hSw
    (try dsimp only at hSw)
    (obtain ⟨⟨q3, q4⟩, qs⟩ := hSw; have x0 := q3.cell (i := 0) rfl; have x1 := q3.cell (i := 1) rfl; have x2 := q3.cell (i := 2) rfl; have x3 := q3.cell (i := 3) rfl; have x4 := q3.cell (i := 4) rfl; have x5 := q3.cell (i := 5) rfl; have x6 := q3.cell (i := 6) rfl; have y5 := q4.cell (i := 5) rfl; go_simp)
  (try simp only [Act.put, List.getElem_toArray, List.getElem_cons_zero, List.getElem_cons_succ, List.setIfInBounds_toArray, List.set_cons_zero, List.set_cons_succ])
  refine wpAnyH_take (i := 9) (v := .pointer (some ⟨nb, no + j, none⟩)) rfl (by kernel_rfl) (by kernel_rfl) (by kernel_rfl) (fun _ _ _ h => hp _ _ _ _ _ h) (Or.inl ⟨by rfl, ?_⟩) (by assumption) ?_
  · intro w hSw
    (try dsimp only at hSw)
    (obtain ⟨⟨q3, q4⟩, qs⟩ := hSw; have x0 := q3.cell (i := 0) rfl; have x1 := q3.cell (i := 1) rfl; have x2 := q3.cell (i := 2) rfl; have x3 := q3.cell (i := 3) rfl; have x4 := q3.cell (i := 4) rfl; have x5 := q3.cell (i := 5) rfl; have x6 := q3.cell (i := 6) rfl; have y5 := q4.cell (i := 5) rfl; go_simp)
  (try simp only [Act.put, List.getElem_toArray, List.getElem_cons_zero, List.getElem_cons_succ, List.setIfInBounds_toArray, List.set_cons_zero, List.set_cons_succ])
  refine wpAnyH_take (i := 10) (v := .string s) rfl (by kernel_rfl) (by kernel_rfl) (by kernel_rfl) (fun _ _ _ h => hp _ _ _ _ _ h) (Or.inl ⟨by rfl, ?_⟩) (by assumption) ?_
  · intro w hSw
    (try dsimp only at hSw)
    (obtain ⟨⟨q3, q4⟩, qs⟩ := hSw; have x0 := q3.cell (i := 0) rfl; have x1 := q3.cell (i := 1) rfl; have x2 := q3.cell (i := 2) rfl; have x3 := q3.cell (i := 3) rfl; have x4 := q3.cell (i := 4) rfl; have x5 := q3.cell (i := 5) rfl; have x6 := q3.cell (i := 6) rfl; have y5 := q4.cell (i := 5) rfl; go_simp)
  (try simp only [Act.put, List.getElem_toArray, List.getElem_cons_zero, List.getElem_cons_succ, List.setIfInBounds_toArray, List.set_cons_zero, List.set_cons_succ])
  refine wpAnyH_take (i := 11) (v := .string (⟨#[91]⟩ ++ pa ++ s)) rfl (by kernel_rfl) (by kernel_rfl) (by kernel_rfl) (fun _ _ _ h => hp _ _ _ _ _ h) (Or.inl ⟨by rfl, ?_⟩) (by assumption) ?_
  · intro w hSw
    (try dsimp only at hSw)
    (obtain ⟨⟨q3, q4⟩, qs⟩ := hSw; have x0 := q3.cell (i := 0) rfl; have x1 := q3.cell (i := 1) rfl; have x2 := q3.cell (i := 2) rfl; have x3 := q3.cell (i := 3) rfl; have x4 := q3.cell (i := 4) rfl; have x5 := q3.cell (i := 5) rfl; have x6 := q3.cell (i := 6) rfl; have y5 := q4.cell (i := 5) rfl; go_simp; omega)
  (try simp only [Act.put, List.getElem_toArray, List.getElem_cons_zero, List.getElem_cons_succ, List.setIfInBounds_toArray, List.set_cons_zero, List.set_cons_succ])
  refine wpAnyH_take (i := 12) (v := .string (⟨#[91]⟩ ++ pa ++ s ++ ⟨#[93, 10]⟩)) rfl (by kernel_rfl) (by kernel_rfl) (by kernel_rfl) (fun _ _ _ h => hp _ _ _ _ _ h) (Or.inl ⟨by rfl, ?_⟩) (by assumption) ?_
  · intro w hSw
    (try dsimp only at hSw)
    (obtain ⟨⟨q3, q4⟩, qs⟩ := hSw; have x0 := q3.cell (i := 0) rfl; have x1 := q3.cell (i := 1) rfl; have x2 := q3.cell (i := 2) rfl; have x3 := q3.cell (i := 3) rfl; have x4 := q3.cell (i := 4) rfl; have x5 := q3.cell (i := 5) rfl; have x6 := q3.cell (i := 6) rfl; have y5 := q4.cell (i := 5) rfl; go_simp; omega)
  (try simp only [Act.put, List.getElem_toArray, List.getElem_cons_zero, List.getElem_cons_succ, List.setIfInBounds_toArray, List.set_cons_zero, List.set_cons_succ])
  refine wpAnyH_ready (rs := [13]) (by kernel_rfl) (by simp) ?_
  refine AllReadyH.cons rfl (fun K hK => ?_) AllReadyH.nil
  go_simp
  refine (Wr.text (HW.out _ hB0) _ (l := ([91] ++ ((pa.data.toList ++ s.data.toList) ++ [93, 10]))) (by simp [ByteArray.data_append]) (by simp only [List.length_append, List.length_cons, List.length_nil]; have := Qm.len_eq s; have := Qm.len_eq pa; omega)).mono ?_
  rintro r w2 ⟨rfl, hw3, hk2, hbB⟩
  have HW2 := hideIt hw3
  have HK2 := hideIt (kept_trans (kept_of_below hB0) hk2)
  have hS2 : Hid ((fun w' => (Box w' b3 78 [.pointer (some ⟨kb, 0, none⟩), .string ⟨#[92, 117, 48, 48]⟩, .string ⟨#[34, 92, 47, 98, 102, 110, 114, 116]⟩, .string ⟨#[34, 92, 47, 8, 12, 10, 13, 9]⟩, .int .i64 2, .string ⟨#[]⟩, .string ⟨#[]⟩] ∧ Box w' b4 28 [.int .i64 6, .int .i64 m, .int .i64 e, .string t, .slice a n c, .slice (some ⟨nb, no, none⟩) ns.length nc]) ∧ w'.cell? ⟨nb, no + j, none⟩ = some (.string s)) w2) := by
    obtain ⟨⟨q3, q4⟩, qs⟩ := HSof.out _ hB0
    exact ⟨⟨q3.kept hk2 HN.out.1 (by decide), q4.kept hk2 HN.out.2 (by decide)⟩, (hbB.cell (p := ⟨nb, no + j, none⟩) HNb.out).trans qs⟩
  clear hw3 hk2 hbB
  go_wp2_with fail
  refine hK.out _ _ hS2.out (fun hHeld => ?_)
  clear hK K
  refine wpAnyH_done (by kernel_rfl) ?_ _
  exact h_ _ _ _ _ _ _ _ _ _ _ _ _ _ _ _ HW2.out HK2.out
set_option maxRecDepth 100000 in
set_option maxHeartbeats 1000000 in
theorem lo14 {Q : Exit → Act → World → Prop} {t0 t1 t5 t6 t7 t10 t11 t12 t13 t14 t15 t16 t17 t18 t19 t20 t21 t22 t23 t24 t25 t26 t27 t28 t29 t30 t31 t32 t33 t34 t35 t36 t37 t38 t39 t40 t41 t42 t43 t44 t45 t46 t47 t48 t49 t50 t51 t52 t53 t54 t55 t56 t57 t58 t59 t60 t61 t62 t63 t64 t65 t66 t67 t68 t69 t70 t71 t72 t73 t74 t75 t76 t77 t78 : Value} {W w0 : World} {B kb b3 b4 nb no j nc n c : Nat} {m e : Int} {t s : ByteArray} {ns : List ByteArray} {a : Option Addr} {acc : List UInt8} {pa : ByteArray} {bv : Nat} {xh : Hd} {xa : Option Addr} {xk : Vo} {xc : Nat} {L : List UInt8}
    (h3 : Box W b3 78 [.pointer (some ⟨kb, 0, none⟩), .string ⟨#[92, 117, 48, 48]⟩, .string ⟨#[34, 92, 47, 98, 102, 110, 114, 116]⟩, .string ⟨#[34, 92, 47, 8, 12, 10, 13, 9]⟩, .int .i64 2, .string ⟨#[]⟩, .string ⟨#[]⟩]) (h4 : Box W b4 28 [.int .i64 6, .int .i64 m, .int .i64 e, .string t, .slice a n c, .slice (some ⟨nb, no, none⟩) ns.length nc]) (hs : W.cell? ⟨nb, no + j, none⟩ = some (.string s)) (hnb : nb < B) (hj : (j : Int) < (ns.length : Int)) (hne3 : b3 ≠ kb) (hne4 : b4 ≠ kb) (hW : Wr B kb w0 acc W) (hz : pa.size + s.size + 1 ≤ 100000000) (hv : Box W bv 28 [.int .i64 xh.k, .int .i64 xh.m, .int .i64 xh.e, .string xh.t, .slice xa xk.len xc, .slice xh.na xh.ns.length xh.nc]) (hnev : bv ≠ kb) (hcall : ∀ W', Below W.heap.size W W' → Calls Try.prog 52 #[wrV kb ⟨#[]⟩ ⟨#[]⟩, valV xh xa xk.len xc, .string (pa ++ s ++ ⟨#[46]⟩)] W' fun r w' => r = .returned (.tuple #[]) ∧ Wr B kb W' (acc ++ L) w')
    (hp : ∀ p d v a w, Q (.panic p) (Act.put a d v) w → Q (.panic p) a w) (h_ : ∀ ws v67 v68 v69 v70 v71 v72 v73 v74 v75 v76 v77, Wr B kb w0 (acc ++ L) ws → Lib.OthersKept 5 (some kb) W ws → Q .normal { tmps := (t0 :: t1 :: (.string pa) :: (.pointer (some ⟨b3, 0, none⟩)) :: (.pointer (some ⟨b4, 0, none⟩)) :: t5 :: t6 :: t7 :: (.int .i64 (j : Nat)) :: (.pointer (some ⟨bv, 0, none⟩)) :: t10 :: t11 :: t12 :: t13 :: t14 :: t15 :: t16 :: t17 :: t18 :: t19 :: t20 :: t21 :: t22 :: t23 :: t24 :: t25 :: t26 :: t27 :: t28 :: t29 :: t30 :: t31 :: t32 :: t33 :: t34 :: t35 :: t36 :: t37 :: t38 :: t39 :: t40 :: t41 :: t42 :: t43 :: t44 :: t45 :: t46 :: t47 :: t48 :: t49 :: t50 :: t51 :: t52 :: t53 :: t54 :: t55 :: t56 :: t57 :: t58 :: t59 :: t60 :: t61 :: t62 :: t63 :: t64 :: t65 :: t66 :: v67 :: v68 :: v69 :: v70 :: v71 :: v72 :: v73 :: v74 :: v75 :: v76 :: v77 :: t78 :: []).toArray, defers := [] } ws) :
    Code.wp Try.prog (Code.region 14 #[{ dst := some 67, op := Op.load 78 (Operand.tmp 3), type := 78, pos := "l12_out.go:142", after := #[], guard := none }, { dst := some 68, op := Op.load 28 (Operand.tmp 9), type := 28, pos := "l12_out.go:142", after := #[], guard := none }, { dst := some 69, op := Op.move (Operand.tmp 2), type := 9, pos := "l12_out.go:142", after := #[], guard := none }, { dst := some 70, op := Op.fieldAddr 28 (Operand.tmp 4) 4, type := 0, pos := "l12_out.go:142", after := #[], guard := none }, { dst := some 71, op := Op.load 26 (Operand.tmp 70), type := 26, pos := "l12_out.go:142", after := #[{ on := 3, ground := Ground.data }], guard := none }, { dst := some 72, op := Op.move (Operand.tmp 8), type := 3, pos := "l12_out.go:142", after := #[], guard := none }, { dst := some 73, op := Op.indexAddr 26 (Operand.tmp 71) (Operand.tmp 72), type := 0, pos := "l12_out.go:142", after := #[{ on := 4, ground := Ground.data }, { on := 5, ground := Ground.data }], guard := none }, { dst := some 74, op := Op.load 9 (Operand.tmp 73), type := 9, pos := "l12_out.go:142", after := #[{ on := 6, ground := Ground.data }], guard := none }, { dst := some 75, op := Op.binOp BinOp.add 9 (Operand.tmp 69) (Operand.tmp 74) 9, type := 9, pos := "l12_out.go:142", after := #[{ on := 2, ground := Ground.data }, { on := 7, ground := Ground.data }], guard := none }, { dst := some 76, op := Op.binOp BinOp.add 9 (Operand.tmp 75) (Operand.const (Value.string { data := #[46] })) 9, type := 9, pos := "l12_out.go:142", after := #[{ on := 8, ground := Ground.data }], guard := none }, { dst := some 77, op := Op.call { callee := Callee.value (Operand.func 52), args := #[Operand.tmp 67, Operand.tmp 68, Operand.tmp 76], argTypes := #[78, 28, 9] }, type := 0, pos := "l12_out.go:142", after := #[{ on := 0, ground := Ground.data }, { on := 1, ground := Ground.data }, { on := 9, ground := Ground.data }], guard := none }] true) Q { tmps := (t0 :: t1 :: (.string pa) :: (.pointer (some ⟨b3, 0, none⟩)) :: (.pointer (some ⟨b4, 0, none⟩)) :: t5 :: t6 :: t7 :: (.int .i64 (j : Nat)) :: (.pointer (some ⟨bv, 0, none⟩)) :: t10 :: t11 :: t12 :: t13 :: t14 :: t15 :: t16 :: t17 :: t18 :: t19 :: t20 :: t21 :: t22 :: t23 :: t24 :: t25 :: t26 :: t27 :: t28 :: t29 :: t30 :: t31 :: t32 :: t33 :: t34 :: t35 :: t36 :: t37 :: t38 :: t39 :: t40 :: t41 :: t42 :: t43 :: t44 :: t45 :: t46 :: t47 :: t48 :: t49 :: t50 :: t51 :: t52 :: t53 :: t54 :: t55 :: t56 :: t57 :: t58 :: t59 :: t60 :: t61 :: t62 :: t63 :: t64 :: t65 :: t66 :: t67 :: t68 :: t69 :: t70 :: t71 :: t72 :: t73 :: t74 :: t75 :: t76 :: t77 :: t78 :: []).toArray, defers := [] } W := by
  have hmeth := write_method
  have HSof : Hid (∀ w', Below W.heap.size W w' → ((Box w' b3 78 [.pointer (some ⟨kb, 0, none⟩), .string ⟨#[92, 117, 48, 48]⟩, .string ⟨#[34, 92, 47, 98, 102, 110, 114, 116]⟩, .string ⟨#[34, 92, 47, 8, 12, 10, 13, 9]⟩, .int .i64 2, .string ⟨#[]⟩, .string ⟨#[]⟩] ∧ Box w' b4 28 [.int .i64 6, .int .i64 m, .int .i64 e, .string t, .slice a n c, .slice (some ⟨nb, no, none⟩) ns.length nc]) ∧ w'.cell? ⟨nb, no + j, none⟩ = some (.string s)) ∧ Box w' bv 28 [.int .i64 xh.k, .int .i64 xh.m, .int .i64 xh.e, .string xh.t, .slice xa xk.len xc, .slice xh.na xh.ns.length xh.nc]) := fun w' h => ⟨⟨⟨h3.below h h3.lt, h4.below h h4.lt⟩, (h.cell (p := ⟨nb, no + j, none⟩) (World.block_lt_of_cell? _ _ hs)).trans hs⟩, hv.below h hv.lt⟩
  have HW : Hid (∀ w', Below W.heap.size W w' → Wr B kb w0 acc w') := fun w' h => hW.below h
  have HNb := hideIt hnb
  have hB0 := (Below.refl W.heap.size W).drew
  have hS0 := HSof.out _ hB0
  have HN := hideIt (And.intro hne3 hne4)
  have HNv := hideIt hnev
  clear hnev hv
  clear h3 h4 hs hnb hne3 hne4 hW
  refine wp_region_held_drew (S := fun w' => ((Box w' b3 78 [.pointer (some ⟨kb, 0, none⟩), .string ⟨#[92, 117, 48, 48]⟩, .string ⟨#[34, 92, 47, 98, 102, 110, 114, 116]⟩, .string ⟨#[34, 92, 47, 8, 12, 10, 13, 9]⟩, .int .i64 2, .string ⟨#[]⟩, .string ⟨#[]⟩] ∧ Box w' b4 28 [.int .i64 6, .int .i64 m, .int .i64 e, .string t, .slice a n c, .slice (some ⟨nb, no, none⟩) ns.length nc]) ∧ w'.cell? ⟨nb, no + j, none⟩ = some (.string s)) ∧ Box w' bv 28 [.int .i64 xh.k, .int .i64 xh.m, .int .i64 xh.e, .string xh.t, .slice xa xk.len xc, .slice xh.na xh.ns.length xh.nc]) (by kernel_rfl) hS0 (fun hHeld => ?_)
  refine wpAnyH_take (i := 0) (v := wrV kb ⟨#[]⟩ ⟨#[]⟩) rfl (by kernel_rfl) (by kernel_rfl) (by kernel_rfl) (fun _ _ _ h => hp _ _ _ _ _ h) (Or.inl ⟨by rfl, ?_⟩) (by assumption) ?_
  · intro w hSw
    (try dsimp only at hSw)
    (obtain ⟨⟨⟨q3, q4⟩, qs⟩, qv⟩ := hSw; have x0 := q3.cell (i := 0) rfl; have x1 := q3.cell (i := 1) rfl; have x2 := q3.cell (i := 2) rfl; have x3 := q3.cell (i := 3) rfl; have x4 := q3.cell (i := 4) rfl; have x5 := q3.cell (i := 5) rfl; have x6 := q3.cell (i := 6) rfl; have y5 := q4.cell (i := 5) rfl; have z0 := qv.cell (i := 0) rfl; have z1 := qv.cell (i := 1) rfl; have z2 := qv.cell (i := 2) rfl; have z3 := qv.cell (i := 3) rfl; have z4 := qv.cell (i := 4) rfl; have z5 := qv.cell (i := 5) rfl; go_simp)
  (try simp only [Act.put, List.getElem_toArray, List.getElem_cons_zero, List.setIfInBounds_toArray, List.set_cons_zero, List.set_cons_succ])
  refine wpAnyH_take (i := 1) (v := valV xh xa xk.len xc) rfl (by kernel_rfl) (by kernel_rfl) (by kernel_rfl) (fun _ _ _ h => hp _ _ _ _ _ h) (Or.inl ⟨by rfl, ?_⟩) (by assumption) ?_
  · intro w hSw
    (try dsimp only at hSw)
    (obtain ⟨⟨⟨q3, q4⟩, qs⟩, qv⟩ := hSw; have x0 := q3.cell (i := 0) rfl; have x1 := q3.cell (i := 1) rfl; have x2 := q3.cell (i := 2) rfl; have x3 := q3.cell (i := 3) rfl; have x4 := q3.cell (i := 4) rfl; have x5 := q3.cell (i := 5) rfl; have x6 := q3.cell (i := 6) rfl; have y5 := q4.cell (i := 5) rfl; have z0 := qv.cell (i := 0) rfl; have z1 := qv.cell (i := 1) rfl; have z2 := qv.cell (i := 2) rfl; have z3 := qv.cell (i := 3) rfl; have z4 := qv.cell (i := 4) rfl; have z5 := qv.cell (i := 5) rfl; go_simp)
  (try simp only [Act.put, List.getElem_toArray, List.getElem_cons_zero, List.getElem_cons_succ, List.setIfInBounds_toArray, List.set_cons_zero, List.set_cons_succ])
  refine wpAnyH_take (i := 2) (v := .string pa) rfl (by kernel_rfl) (by kernel_rfl) (by kernel_rfl) (fun _ _ _ h => hp _ _ _ _ _ h) (Or.inl ⟨by rfl, ?_⟩) (by assumption) ?_
  · intro w hSw
    (try dsimp only at hSw)
    (obtain ⟨⟨⟨q3, q4⟩, qs⟩, qv⟩ := hSw; have x0 := q3.cell (i := 0) rfl; have x1 := q3.cell (i := 1) rfl; have x2 := q3.cell (i := 2) rfl; have x3 := q3.cell (i := 3) rfl; have x4 := q3.cell (i := 4) rfl; have x5 := q3.cell (i := 5) rfl; have x6 := q3.cell (i := 6) rfl; have y5 := q4.cell (i := 5) rfl; have z0 := qv.cell (i := 0) rfl; have z1 := qv.cell (i := 1) rfl; have z2 := qv.cell (i := 2) rfl; have z3 := qv.cell (i := 3) rfl; have z4 := qv.cell (i := 4) rfl; have z5 := qv.cell (i := 5) rfl; go_simp)
  (try simp only [Act.put, List.getElem_toArray, List.getElem_cons_zero, List.getElem_cons_succ, List.setIfInBounds_toArray, List.set_cons_zero, List.set_cons_succ])
  refine wpAnyH_take (i := 3) (v := .pointer (some ⟨b4, 5, none⟩)) rfl (by kernel_rfl) (by kernel_rfl) (by kernel_rfl) (fun _ _ _ h => hp _ _ _ _ _ h) (Or.inl ⟨by rfl, ?_⟩) (by assumption) ?_
  · intro w hSw
    (try dsimp only at hSw)
    (obtain ⟨⟨⟨q3, q4⟩, qs⟩, qv⟩ := hSw; have x0 := q3.cell (i := 0) rfl; have x1 := q3.cell (i := 1) rfl; have x2 := q3.cell (i := 2) rfl; have x3 := q3.cell (i := 3) rfl; have x4 := q3.cell (i := 4) rfl; have x5 := q3.cell (i := 5) rfl; have x6 := q3.cell (i := 6) rfl; have y5 := q4.cell (i := 5) rfl; have z0 := qv.cell (i := 0) rfl; have z1 := qv.cell (i := 1) rfl; have z2 := qv.cell (i := 2) rfl; have z3 := qv.cell (i := 3) rfl; have z4 := qv.cell (i := 4) rfl; have z5 := qv.cell (i := 5) rfl; go_simp)
  (try simp only [Act.put, List.getElem_toArray, List.getElem_cons_zero, List.getElem_cons_succ, List.setIfInBounds_toArray, List.set_cons_zero, List.set_cons_succ])
  refine wpAnyH_take (i := 4) (v := .slice (some ⟨nb, no, none⟩) ns.length nc) rfl (by kernel_rfl) (by kernel_rfl) (by kernel_rfl) (fun _ _ _ h => hp _ _ _ _ _ h) (Or.inl ⟨by rfl, ?_⟩) (by assumption) ?_
  · intro w hSw
    (try dsimp only at hSw)
    (obtain ⟨⟨⟨q3, q4⟩, qs⟩, qv⟩ := hSw; have x0 := q3.cell (i := 0) rfl; have x1 := q3.cell (i := 1) rfl; have x2 := q3.cell (i := 2) rfl; have x3 := q3.cell (i := 3) rfl; have x4 := q3.cell (i := 4) rfl; have x5 := q3.cell (i := 5) rfl; have x6 := q3.cell (i := 6) rfl; have y5 := q4.cell (i := 5) rfl; have z0 := qv.cell (i := 0) rfl; have z1 := qv.cell (i := 1) rfl; have z2 := qv.cell (i := 2) rfl; have z3 := qv.cell (i := 3) rfl; have z4 := qv.cell (i := 4) rfl; have z5 := qv.cell (i := 5) rfl; go_simp)
  (try simp only [Act.put, List.getElem_toArray, List.getElem_cons_zero, List.getElem_cons_succ, List.setIfInBounds_toArray, List.set_cons_zero, List.set_cons_succ])
  refine wpAnyH_take (i := 5) (v := .int .i64 (j : Nat)) rfl (by kernel_rfl) (by kernel_rfl) (by kernel_rfl) (fun _ _ _ h => hp _ _ _ _ _ h) (Or.inl ⟨by rfl, ?_⟩) (by assumption) ?_
  · intro w hSw
    (try dsimp only at hSw)
    (obtain ⟨⟨⟨q3, q4⟩, qs⟩, qv⟩ := hSw; have x0 := q3.cell (i := 0) rfl; have x1 := q3.cell (i := 1) rfl; have x2 := q3.cell (i := 2) rfl; have x3 := q3.cell (i := 3) rfl; have x4 := q3.cell (i := 4) rfl; have x5 := q3.cell (i := 5) rfl; have x6 := q3.cell (i := 6) rfl; have y5 := q4.cell (i := 5) rfl; have z0 := qv.cell (i := 0) rfl; have z1 := qv.cell (i := 1) rfl; have z2 := qv.cell (i := 2) rfl; have z3 := qv.cell (i := 3) rfl; have z4 := qv.cell (i := 4) rfl; have z5 := qv.cell (i := 5) rfl; go_simp)
  (try simp only [Act.put, List.getElem_toArray, List.getElem_cons_zero, List.getElem_cons_succ, List.setIfInBounds_toArray, List.set_cons_zero, List.set_cons_succ])
  refine wpAnyH_take (i := 6) (v := .pointer (some ⟨nb, no + j, none⟩)) rfl (by kernel_rfl) (by kernel_rfl) (by kernel_rfl) (fun _ _ _ h => hp _ _ _ _ _ h) (Or.inl ⟨by rfl, ?_⟩) (by assumption) ?_
  · intro w hSw
    (try dsimp only at hSw)
    (obtain ⟨⟨⟨q3, q4⟩, qs⟩, qv⟩ := hSw; have x0 := q3.cell (i := 0) rfl; have x1 := q3.cell (i := 1) rfl; have x2 := q3.cell (i := 2) rfl; have x3 := q3.cell (i := 3) rfl; have x4 := q3.cell (i := 4) rfl; have x5 := q3.cell (i := 5) rfl; have x6 := q3.cell (i := 6) rfl; have y5 := q4.cell (i := 5) rfl; have z0 := qv.cell (i := 0) rfl; have z1 := qv.cell (i := 1) rfl; have z2 := qv.cell (i := 2) rfl; have z3 := qv.cell (i := 3) rfl; have z4 := qv.cell (i := 4) rfl; have z5 := qv.cell (i := 5) rfl; go_simp)
  (try simp only [Act.put, List.getElem_toArray, List.getElem_cons_zero, List.getElem_cons_succ, List.setIfInBounds_toArray, List.set_cons_zero, List.set_cons_succ])
  refine wpAnyH_take (i := 7) (v := .string s) rfl (by kernel_rfl) (by kernel_rfl) (by kernel_rfl) (fun _ _ _ h => hp _ _ _ _ _ h) (Or.inl ⟨by rfl, ?_⟩) (by assumption) ?_
  · intro w hSw
    (try dsimp only at hSw)
    (obtain ⟨⟨⟨q3, q4⟩, qs⟩, qv⟩ := hSw; have x0 := q3.cell (i := 0) rfl; have x1 := q3.cell (i := 1) rfl; have x2 := q3.cell (i := 2) rfl; have x3 := q3.cell (i := 3) rfl; have x4 := q3.cell (i := 4) rfl; have x5 := q3.cell (i := 5) rfl; have x6 := q3.cell (i := 6) rfl; have y5 := q4.cell (i := 5) rfl; have z0 := qv.cell (i := 0) rfl; have z1 := qv.cell (i := 1) rfl; have z2 := qv.cell (i := 2) rfl; have z3 := qv.cell (i := 3) rfl; have z4 := qv.cell (i := 4) rfl; have z5 := qv.cell (i := 5) rfl; go_simp)
  (try simp only [Act.put, List.getElem_toArray, List.getElem_cons_zero, List.getElem_cons_succ, List.setIfInBounds_toArray, List.set_cons_zero, List.set_cons_succ])
  refine wpAnyH_take (i := 8) (v := .string (pa ++ s)) rfl (by kernel_rfl) (by kernel_rfl) (by kernel_rfl) (fun _ _ _ h => hp _ _ _ _ _ h) (Or.inl ⟨by rfl, ?_⟩) (by assumption) ?_
  · intro w hSw
    (try dsimp only at hSw)
    (obtain ⟨⟨⟨q3, q4⟩, qs⟩, qv⟩ := hSw; have x0 := q3.cell (i := 0) rfl; have x1 := q3.cell (i := 1) rfl; have x2 := q3.cell (i := 2) rfl; have x3 := q3.cell (i := 3) rfl; have x4 := q3.cell (i := 4) rfl; have x5 := q3.cell (i := 5) rfl; have x6 := q3.cell (i := 6) rfl; have y5 := q4.cell (i := 5) rfl; have z0 := qv.cell (i := 0) rfl; have z1 := qv.cell (i := 1) rfl; have z2 := qv.cell (i := 2) rfl; have z3 := qv.cell (i := 3) rfl; have z4 := qv.cell (i := 4) rfl; have z5 := qv.cell (i := 5) rfl; go_simp; omega)
  (try simp only [Act.put, List.getElem_toArray, List.getElem_cons_zero, List.getElem_cons_succ, List.setIfInBounds_toArray, List.set_cons_zero, List.set_cons_succ])
  refine wpAnyH_take (i := 9) (v := .string (pa ++ s ++ ⟨#[46]⟩)) rfl (by kernel_rfl) (by kernel_rfl) (by kernel_rfl) (fun _ _ _ h => hp _ _ _ _ _ h) (Or.inl ⟨by rfl, ?_⟩) (by assumption) ?_
  · intro w hSw
    (try dsimp only at hSw)
    (obtain ⟨⟨⟨q3, q4⟩, qs⟩, qv⟩ := hSw; have x0 := q3.cell (i := 0) rfl; have x1 := q3.cell (i := 1) rfl; have x2 := q3.cell (i := 2) rfl; have x3 := q3.cell (i := 3) rfl; have x4 := q3.cell (i := 4) rfl; have x5 := q3.cell (i := 5) rfl; have x6 := q3.cell (i := 6) rfl; have y5 := q4.cell (i := 5) rfl; have z0 := qv.cell (i := 0) rfl; have z1 := qv.cell (i := 1) rfl; have z2 := qv.cell (i := 2) rfl; have z3 := qv.cell (i := 3) rfl; have z4 := qv.cell (i := 4) rfl; have z5 := qv.cell (i := 5) rfl; go_simp; omega)
  (try simp only [Act.put, List.getElem_toArray, List.getElem_cons_zero, List.getElem_cons_succ, List.setIfInBounds_toArray, List.set_cons_zero, List.set_cons_succ])
  refine wpAnyH_ready (rs := [10]) (by kernel_rfl) (by simp) ?_
  refine AllReadyH.cons rfl (fun K hK => ?_) AllReadyH.nil
  go_simp
  refine (hcall _ hB0).mono ?_
  rintro r w2 ⟨rfl, hw2⟩
  have hk2 := hw2.2.2
  have hbB := hw2.2.1
  have hw3 := (HW.out _ hB0).then hw2
  have HW2 := hideIt hw3
  have HK2 := hideIt (kept_trans (kept_of_below hB0) hk2)
  have hS2 : Hid ((fun w' => ((Box w' b3 78 [.pointer (some ⟨kb, 0, none⟩), .string ⟨#[92, 117, 48, 48]⟩, .string ⟨#[34, 92, 47, 98, 102, 110, 114, 116]⟩, .string ⟨#[34, 92, 47, 8, 12, 10, 13, 9]⟩, .int .i64 2, .string ⟨#[]⟩, .string ⟨#[]⟩] ∧ Box w' b4 28 [.int .i64 6, .int .i64 m, .int .i64 e, .string t, .slice a n c, .slice (some ⟨nb, no, none⟩) ns.length nc]) ∧ w'.cell? ⟨nb, no + j, none⟩ = some (.string s)) ∧ Box w' bv 28 [.int .i64 xh.k, .int .i64 xh.m, .int .i64 xh.e, .string xh.t, .slice xa xk.len xc, .slice xh.na xh.ns.length xh.nc]) w2) := by
    obtain ⟨⟨⟨q3, q4⟩, qs⟩, qv⟩ := HSof.out _ hB0
    exact ⟨⟨⟨q3.kept hk2 HN.out.1 (by decide), q4.kept hk2 HN.out.2 (by decide)⟩, (hbB.cell (p := ⟨nb, no + j, none⟩) HNb.out).trans qs⟩, qv.kept hk2 HNv.out (by decide)⟩
  clear hw3 hk2 hbB hw2
  go_wp2_with fail
  refine hK.out _ _ hS2.out (fun hHeld => ?_)
  clear hK K
  refine wpAnyH_done (by kernel_rfl) ?_ _
  exact h_ _ _ _ _ _ _ _ _ _ _ _ _ HW2.out HK2.out
end Go.Proofs.Ytfgchdnpbbgmjaa
/- Values as lines, by the program: an object is written. -/
namespace Go.Proofs.Ytfgchdnpbbgmjaa
open Go.RowKit
attribute [local go_sem] cell_alloc_is frozen_alloc_is
def ObC (N : Nat) : Prop := ∀ (hd : Hd) (a : Option Addr) (c : Nat) (F : Vo) (path : ByteArray) (acc : List UInt8) (B kb : Nat) (w W0 : World), F.size < N → N ≤ 200 → path.size + 13 * N ≤ 3000 → hd.k = 6 → acc.length + 30000 * F.size ≤ 50000000 →
  FitJ hd F → F.In W0 a → F.len ≤ c → c ≤ maxLen → hd.In W0 → W0.heap.size ≤ B → B ≤ kb → Below W0.heap.size W0 w → Holds B kb acc w → B ≤ w.heap.size →
  Calls Try.prog 52 #[wrV kb ⟨#[]⟩ ⟨#[]⟩, valV hd a F.len c, .string path] w fun r w' => r = .returned (.tuple #[]) ∧ Wr B kb w (acc ++ ttext N hd F path.data.toList) w'
def lwCells (kb : Nat) : List Value := [.pointer (some ⟨kb, 0, none⟩), .string ⟨#[92, 117, 48, 48]⟩, .string ⟨#[34, 92, 47, 98, 102, 110, 114, 116]⟩, .string ⟨#[34, 92, 47, 8, 12, 10, 13, 9]⟩, .int .i64 2, .string ⟨#[]⟩, .string ⟨#[]⟩]
theorem lw_cells {W : World} {b kb : Nat} (h : Box W b 78 (lwCells kb)) :
    W.cell? ⟨b, 0, none⟩ = some (.pointer (some ⟨kb, 0, none⟩)) ∧ W.cell? ⟨b, 1, none⟩ = some (.string ⟨#[92, 117, 48, 48]⟩) ∧ W.cell? ⟨b, 2, none⟩ = some (.string ⟨#[34, 92, 47, 98, 102, 110, 114, 116]⟩) ∧ W.cell? ⟨b, 3, none⟩ = some (.string ⟨#[34, 92, 47, 8, 12, 10, 13, 9]⟩) ∧ W.cell? ⟨b, 4, none⟩ = some (.int .i64 2) ∧ W.cell? ⟨b, 5, none⟩ = some (.string ⟨#[]⟩) ∧ W.cell? ⟨b, 6, none⟩ = some (.string ⟨#[]⟩) :=
  ⟨h.cell (i := 0) rfl, h.cell (i := 1) rfl, h.cell (i := 2) rfl, h.cell (i := 3) rfl, h.cell (i := 4) rfl, h.cell (i := 5) rfl, h.cell (i := 6) rfl⟩
theorem v_cells {W : World} {b : Nat} {h : Hd} {a : Option Addr} {n c : Nat} (x : Box W b 28 (vCells h a n c)) :
    W.cell? ⟨b, 0, none⟩ = some (.int .i64 h.k) ∧ W.cell? ⟨b, 1, none⟩ = some (.int .i64 h.m) ∧ W.cell? ⟨b, 2, none⟩ = some (.int .i64 h.e) ∧ W.cell? ⟨b, 3, none⟩ = some (.string h.t) ∧ W.cell? ⟨b, 4, none⟩ = some (.slice a n c) ∧ W.cell? ⟨b, 5, none⟩ = some (.slice h.na h.ns.length h.nc) :=
  ⟨x.cell (i := 0) rfl, x.cell (i := 1) rfl, x.cell (i := 2) rfl, x.cell (i := 3) rfl, x.cell (i := 4) rfl, x.cell (i := 5) rfl⟩
theorem tsum_at {f : Hd → Vo → List UInt8 → List UInt8} {ns : List ByteArray} {F : Vo} {path : List UInt8} (hns : ∀ i, (nameAt ns i).size ≤ 12) (hfit : F.allOne) {j : Nat}
    (h0 : (tlines ns F j).length + (theads f ns F path j).length ≤ 30000 * F.sumJ j) (hk : (F.hdAt j).k = 6) : ∀ n, j + 1 ≤ n → n ≤ F.len → (tlines ns F n).length + (theads f ns F path j).length + 30000 * ((F.kidsAt j).size + 1) ≤ 30000 * F.sumJ n := by
  intro n
  induction n with
  | zero => intro h; omega
  | succ n ih =>
    intro h1 h2
    have h3 := hns n
    have h4 : (nameAt ns n).data.toList.length = (nameAt ns n).size := by rw [Array.length_toList]; rfl
    have h5 := jtext_len (step := []) (gap := []) (by simp) (by simp) 200 (F.hdAt n) (F.kidsAt n) [] (by simp only [List.length_nil]; omega) (fitJ_at h2 hfit)
    have h7 : (tline ns F n).length ≤ 30000 * ((F.kidsAt n).size + 1) := by
      unfold tline
      by_cases hq : (F.hdAt n).k = 6
      · rw [if_pos hq]; exact Nat.zero_le _
      · rw [if_neg hq]
        simp only [List.length_append, List.length_cons, List.length_nil]
        omega
    clear h3 h4 h5
    have h8 : tlines ns F (n + 1) = tlines ns F n ++ tline ns F n := rfl
    have h9 : F.sumJ (n + 1) = F.sumJ n + ((F.kidsAt n).size + 1) := rfl
    rw [h8, h9, List.length_append]
    by_cases e : n = j
    · clear ih
      subst e
      have h10 : tline ns F n = [] := by unfold tline; rw [if_pos hk]
      rw [h10, List.length_nil]
      have h11 : ∀ A B s z : Nat, A + B ≤ 30000 * s → A + 0 + B + 30000 * (z + 1) ≤ 30000 * (s + (z + 1)) := fun A B s z h => by omega
      exact h11 _ _ _ _ h0
    · have h6 := ih (by clear h8 h9 h0 h7 ih; omega) (by clear h8 h9 h0 h7 ih; omega)
      have h12 : ∀ A B T s z q : Nat, A + B + q ≤ 30000 * s → T ≤ 30000 * (z + 1) → A + T + B + q ≤ 30000 * (s + (z + 1)) := fun A B T s z q h h' => by omega
      exact h12 _ _ _ _ _ _ h6 h7
set_option maxRecDepth 100000 in
set_option linter.unusedSimpArgs false in
set_option maxHeartbeats 2000000 in
theorem object_step (N : Nat) (H : ObC N) : ObC (N + 1) := by
  intro hd a c F path acc B kb w W0 hF hN hpl hk hlen hfit hin hl hc hh hWB hBk hb0 hH hBw
  obtain ⟨k, m, e, t, na, nc, ns⟩ := hd
  dsimp only at hk
  subst hk
  have hone := oneJ hfit.1
  dsimp only at hone
  obtain ⟨-, -, -, k66, -⟩ := hone
  have HK := hideIt (k66 rfl)
  clear k66
  have hkl := holds_lt hH
  have hmeth := write_method
  have hfl : F.len ≤ F.size := F.len_le
  have hpz : path.data.toList.length = path.size := Qm.len_eq path
  obtain ⟨n, hn⟩ : ∃ n, F.len = n := ⟨_, rfl⟩
  have HNl := hideIt hn
  have HT : Hid (ttext (N + 1) ⟨6, m, e, t, na, nc, ns⟩ F path.data.toList = tlines ns F n ++ theads (ttext N) ns F path.data.toList n) := by
    show tlines ns F F.len ++ theads (ttext N) ns F path.data.toList F.len = _
    rw [hn]
  have HLn : Hid (∀ j, j ≤ n → (tlines ns F j).length + (theads (ttext N) ns F path.data.toList j).length ≤ 30000 * F.sumJ j) := by
    unfold Hid
    rw [← hn]
    exact tsum_len (by omega) (fun i => asc_short HK.out.2 i) hfit.2 (fun i hi hk' => ttext_len N _ _ _ (by
      have h3 := asc_short HK.out.2 i
      have h4 : (nameAt ns i).data.toList.length = (nameAt ns i).size := by rw [Array.length_toList]; rfl
      simp only [List.length_append, List.length_cons, List.length_nil]
      omega) hk' (fitJ_at hi hfit.2))
  have HS : Hid (∀ j, j ≤ n → F.sumJ j ≤ F.size) := fun j hj => by
    have h1 := sumJ_le F (i := j) (n := F.len) (by omega)
    rw [sumJ_len] at h1
    exact h1
  have HIn : Hid (((∀ W, Below W0.heap.size W0 W → F.In W a) ∧ F.allOne) ∧ Below W0.heap.size W0 w) := ⟨⟨fun W h => hin.grow h, hfit.2⟩, hb0⟩
  have HNm : Hid ((ns.length = F.len ∧ ∀ i, (nameAt ns i).size ≤ 12) ∧ SIn W0 ns na) := ⟨⟨HK.out.1, fun i => asc_short HK.out.2 i⟩, hh.1⟩
  obtain ⟨wp, hwp⟩ : ∃ wp, wp = (w.alloc (.cells #[.pointer (some ⟨kb, 0, none⟩), .string ⟨#[92, 117, 48, 48]⟩, .string ⟨#[34, 92, 47, 98, 102, 110, 114, 116]⟩, .string ⟨#[34, 92, 47, 8, 12, 10, 13, 9]⟩, .int .i64 2, .string ⟨#[]⟩, .string ⟨#[]⟩] 78)).alloc (.cells #[.int .i64 6, .int .i64 m, .int .i64 e, .string t, .slice a F.len c, .slice na ns.length nc] 28) := ⟨_, rfl⟩
  have hX : Box wp w.heap.size 78 (lwCells kb) := by subst hwp; exact (Box.new w _ (lwCells kb)).below ((Below.refl _ _).alloc (Nat.le_refl _) _) (by simp)
  have hV : Box wp (w.heap.size + 1) 28 (vCells ⟨6, m, e, t, na, nc, ns⟩ a F.len c) := by
    subst hwp
    have := Box.new (w.alloc (.cells #[.pointer (some ⟨kb, 0, none⟩), .string ⟨#[92, 117, 48, 48]⟩, .string ⟨#[34, 92, 47, 98, 102, 110, 114, 116]⟩, .string ⟨#[34, 92, 47, 8, 12, 10, 13, 9]⟩, .int .i64 2, .string ⟨#[]⟩, .string ⟨#[]⟩] 78)) 28 (vCells ⟨6, m, e, t, na, nc, ns⟩ a F.len c)
    rwa [World.size_alloc] at this
  have hWr : Wr B kb w acc wp := by subst hwp; exact ((Wr.start hH hBw).alloc _).alloc _
  have hne : w.heap.size ≠ kb := by omega
  have hne1 : w.heap.size + 1 ≠ kb := by omega
  have HX := hideIt hX
  have HV := hideIt hV
  have HWr := hideIt hWr
  have HW := hideIt hwp
  rw [hn] at hl hfl HV ⊢
  clear hX hV hWr hwp hin hfit hh hb0 hH HK hn hpz
  go_enter Try.func52, Try.ntmps52
  obtain ⟨y0, y1, y2, y3, y4, y5⟩ := v_cells HV.out
  dsimp only at y0 y1 y2 y3 y4 y5
  rw [HNl.out] at HW
  go_wp2_with (rw [← HW.out])
  clear y0 y1 y2 y3 y4 y5 HW
  go_loopw [13] (fun i wr => ∃ j : Nat, i = .int .i64 j ∧ j ≤ n ∧ Wr B kb w (acc ++ tlines ns F j) wr ∧ Box wr w.heap.size 78 (lwCells kb) ∧ Box wr (w.heap.size + 1) 28 (vCells ⟨6, m, e, t, na, nc, ns⟩ a n c)) (fun i _ => n - (intOf i).toNat)
  case atStart => exact ⟨0, rfl, Nat.zero_le _, by show Wr B kb w (acc ++ []) _; rw [List.append_nil]; exact HWr.out, HX.out, HV.out⟩
  case round =>
    obtain ⟨j, rfl, hj, hw, hx, hv⟩ := hrel
    have HWj := hideIt hw
    have HXj := hideIt hx
    have HVj := hideIt hv
    have hlj := hideIt (HLn.out j hj)
    have hsj := HS.out j hj
    have hzw := hv.lt
    clear hw hx hv
    by_cases hjn : j < n
    case neg =>
      have ej : n = j := by omega
      subst ej
      obtain ⟨L, hL⟩ : ∃ L, L = tlines ns F n := ⟨_, rfl⟩
      have HL0 := hideIt hL
      rw [← hL] at HWj
      clear hL hjn hj hlj
      obtain ⟨y0, y1, y2, y3, y4, y5⟩ := v_cells HVj.out
      dsimp only at y0 y1 y2 y3 y4 y5
      go_wp2_with fail
      clear y0 y1 y2 y3 y4 y5
      go_loopw [45] (fun i wr => ∃ j : Nat, i = .int .i64 j ∧ j ≤ n ∧ Wr B kb w (acc ++ L ++ theads (ttext N) ns F path.data.toList j) wr ∧ Box wr w.heap.size 78 (lwCells kb) ∧ Box wr (w.heap.size + 1) 28 (vCells ⟨6, m, e, t, na, nc, ns⟩ a n c)) (fun i _ => n - (intOf i).toNat)
      case atStart => exact ⟨0, rfl, Nat.zero_le _, by show Wr B kb w (acc ++ L ++ []) _; rw [List.append_nil]; exact HWj.out, HXj.out, HVj.out⟩
      case round =>
        clear HWj HXj HVj hzw hsj
        obtain ⟨j, rfl, hj, hw, hx, hv⟩ := hrel
        have HWj := hideIt hw
        have HXj := hideIt hx
        have HVj := hideIt hv
        have hlj := hideIt (HLn.out j hj)
        have hsj := HS.out j hj
        have hzw := hv.lt
        clear hw hx hv
        by_cases hjn : j < n
        case neg =>
          have ej : n = j := by omega
          subst ej
          have HT2 : Hid (acc ++ ttext (N + 1) ⟨6, m, e, t, na, nc, ns⟩ F path.data.toList = acc ++ L ++ theads (ttext N) ns F path.data.toList n) := by unfold Hid; rw [HT.out, HL0.out, List.append_assoc]
          clear hjn hj HT
          go_wp2_with fail
          exact bodyPost_end (v := .tuple #[]) (by simp [results, Try.results52]) rfl ⟨rfl, by rw [HT2.out]; exact HWj.out⟩
        have hjF : j < F.len := by rw [HNl.out]; exact hjn
        have hjl : (j : Int) < (n : Int) := by omega
        have hbd : F.sumJ j + ((F.kidsAt j).size + 1) ≤ F.size := by
          have h1 := sumJ_le F (i := j + 1) (n := F.len) hjF
          rw [sumJ_len] at h1
          exact h1
        obtain ⟨b, o, rfl, hFr⟩ := Vo.from_of_len (HIn.out.1.1 _ (Below.refl _ _)) hjF
        have hbw : Below W0.heap.size W0 wr := HIn.out.2.trans (HWj.out.2.1.mono hWB)
        obtain ⟨⟨c0, c1, c2, c3, c4, c5⟩, ck, ⟨cc1, cc2⟩, ch⟩ := Vo.from_at (Vo.from_grow hbw F b o hFr) hjF
        have HKid : Hid (((F.kidsAt j).In W0 (F.addrAt j) ∧ (F.kidsAt j).len ≤ F.capAt j ∧ F.capAt j ≤ maxLen) ∧ (F.hdAt j).In W0 ∧ FitJ (F.hdAt j) (F.kidsAt j)) := by
          obtain ⟨_, x2, x3, x4⟩ := Vo.from_at hFr hjF
          exact ⟨⟨x2, x3⟩, x4, fitJ_at hjF HIn.out.1.2⟩
        have hsn := nameAt_some (ns := ns) (i := j) (by rw [HNm.out.1.1]; exact hjF)
        have hcl := HNm.out.1.2 j
        obtain ⟨nb, no, e1, hSn⟩ : ∃ nb no, na = some ⟨nb, no, none⟩ ∧ SFrom W0 ns nb no := by
          rcases HNm.out.2 with e | ⟨nb, no, e, hS⟩
          · rw [e] at hsn; simp at hsn
          · exact ⟨nb, no, e, hS⟩
        subst e1
        have hnb : nb < B := Nat.lt_of_lt_of_le (World.block_lt_of_cell? W0 _ (hSn.at hsn).1) hWB
        have hjn2 : (j : Int) < (ns.length : Int) := by rw [HNm.out.1.1, HNl.out]; exact hjl
        have HSn : Hid (∀ W, Below B w W → W.cell? ⟨nb, no + j, none⟩ = some (.string (nameAt ns j))) := fun W hW => ((hSn.grow (HIn.out.2.trans (hW.mono hWB))).at hsn).1
        have HBV := hideIt (Box.new wr 28 (vCells (F.hdAt j) (F.addrAt j) (F.kidsAt j).len (F.capAt j)))
        have hal := (Below.refl _ wr).alloc (Nat.le_refl _) (.cells (vCells (F.hdAt j) (F.addrAt j) (F.kidsAt j).len (F.capAt j)).toArray 28)
        have HXa := hideIt (HXj.out.below hal HXj.out.lt)
        have HVa := hideIt (HVj.out.below hal HVj.out.lt)
        have HWa := hideIt (HWj.out.alloc (.cells (vCells (F.hdAt j) (F.addrAt j) (F.kidsAt j).len (F.capAt j)).toArray 28))
        have hvk : wr.heap.size ≠ kb := by omega
        clear ck ch hFr HXj HVj HWj hal hsn hSn hbw
        unfold vCells at HBV HXa HVa HWa
        have HP : Hid (theads (ttext N) ns F path.data.toList (j + 1) = theads (ttext N) ns F path.data.toList j ++ (if (F.hdAt j).k = 6 then [91] ++ ((path.data.toList ++ (nameAt ns j).data.toList) ++ ([93, 10] ++ ttext N (F.hdAt j) (F.kidsAt j) ((path.data.toList ++ (nameAt ns j).data.toList) ++ [46]))) else [])) := rfl
        obtain ⟨A, hA⟩ : ∃ A, A = theads (ttext N) ns F path.data.toList j := ⟨_, rfl⟩
        have hAt : (F.hdAt j).k = 6 → L.length + A.length + 30000 * ((F.kidsAt j).size + 1) ≤ 30000 * F.size := fun q => by
          have h1 := tsum_at (f := ttext N) (path := path.data.toList) HNm.out.1.2 HIn.out.1.2 hlj.out q F.len hjF (Nat.le_refl _)
          rw [sumJ_len, HNl.out, ← HL0.out, ← hA] at h1
          exact h1
        have HAt := hideIt hAt
        rw [← hA] at HWa HP
        clear hA hlj HT hAt HL0
        generalize F.hdAt j = xh at *
        generalize F.kidsAt j = xk at *
        generalize F.addrAt j = xa at *
        generalize F.capAt j = xc at *
        generalize nameAt ns j = nm at *
        have hnl := Qm.len_eq nm
        have hpl2 := Qm.len_eq path
        by_cases hk : xh.k = 6
        · have hk' : (xh.k == 6) = true := by simp [hk]
          have HKk := hideIt hk
          have hAt := HAt.out hk
          clear hk
          go_wp2_with fail
          refine lo13 (s := nm) (j := j) (pa := path) HXa.out HVa.out (HSn.out _ HWa.out.2.1) hnb hjn2 hne hne1 HWa.out (by simp only [List.length_append]; omega) (fun _ d _ _ _ h => by cases d <;> exact h) ?_
          intro w5 v53 v54 v55 v56 v57 v58 v59 v60 v61 v62 v63 v64 v65 v66 h5 hk5
          have HW5 := hideIt h5
          have HX5 := hideIt (HXa.out.kept hk5 hne (by decide))
          have HV5 := hideIt (HVa.out.kept hk5 hne1 (by decide))
          have HB5 := hideIt (HBV.out.kept hk5 hvk (by decide))
          clear h5 hk5 HWa HXa HVa HBV c0 c1 c2 c3 c4 c5
          have hp3 : (path ++ nm ++ (⟨#[46]⟩ : ByteArray)).size = path.size + nm.size + 1 := by simp [ByteArray.size_append]; rfl
          have hp4 : (path.data.toList ++ nm.data.toList) ++ [46] = (path ++ nm ++ (⟨#[46]⟩ : ByteArray)).data.toList := by simp [ByteArray.data_append]
          rw [hp4] at HP
          go_wp2_with fail
          refine lo14 (s := nm) (j := j) (pa := path) (L := ttext N xh xk (path ++ nm ++ (⟨#[46]⟩ : ByteArray)).data.toList) HX5.out HV5.out (HSn.out _ HW5.out.2.1) hnb hjn2 hne hne1 HW5.out (by omega) HB5.out hvk (fun W' hW => ?_) (fun _ d _ _ _ h => by cases d <;> exact h) ?_
          · exact H xh xa xc xk _ _ B kb W' W0 (by omega) (by omega) (by omega) HKk.out (by simp only [List.length_append, List.length_cons, List.length_nil]; omega) HKid.out.2.2 HKid.out.1.1 HKid.out.1.2.1 HKid.out.1.2.2 HKid.out.2.1 hWB hBk (HIn.out.2.trans ((HW5.out.2.1.trans (hW.mono HW5.out.1.2)).mono hWB)) (holds_belowJ HW5.out.1.1 hW) (Nat.le_trans HW5.out.1.2 hW.size)
          intro w6 v67 v68 v69 v70 v71 v72 v73 v74 v75 v76 v77 h6 hk6
          have HW6 := hideIt h6
          have HX6 := hideIt (HX5.out.kept hk6 hne (by decide))
          have HV6 := hideIt (HV5.out.kept hk6 hne1 (by decide))
          clear h6 hk6 HW5 HX5 HV5 HB5
          go_wp2_with fail
          go_round
          case rel =>
            refine ⟨j + 1, by go_num, by omega, ?_, HX6.out, HV6.out⟩
            have h9 := HW6.out
            rw [HP.out, if_pos HKk.out]
            simpa [List.append_assoc] using h9
          case measure => simp [intOf]; omega
        · have hk' : (xh.k == 6) = false := by simp [hk]
          have HKk := hideIt hk
          clear hk
          go_wp2_with fail
          go_round
          case rel =>
            refine ⟨j + 1, by go_num, by omega, ?_, HXa.out, HVa.out⟩
            rw [HP.out, if_neg HKk.out, List.append_nil]
            exact HWa.out
          case measure => simp [intOf]; omega
    have hjF : j < F.len := by rw [HNl.out]; exact hjn
    have hjl : (j : Int) < (n : Int) := by omega
    have hbd : F.sumJ j + ((F.kidsAt j).size + 1) ≤ F.size := by
      have h1 := sumJ_le F (i := j + 1) (n := F.len) hjF
      rw [sumJ_len] at h1
      exact h1
    obtain ⟨b, o, rfl, hFr⟩ := Vo.from_of_len (HIn.out.1.1 _ (Below.refl _ _)) hjF
    have hbw : Below W0.heap.size W0 wr := HIn.out.2.trans (HWj.out.2.1.mono hWB)
    obtain ⟨⟨c0, c1, c2, c3, c4, c5⟩, ck, ⟨cc1, cc2⟩, ch⟩ := Vo.from_at (Vo.from_grow hbw F b o hFr) hjF
    have HKid : Hid (((F.kidsAt j).In W0 (F.addrAt j) ∧ (F.kidsAt j).len ≤ F.capAt j ∧ F.capAt j ≤ maxLen) ∧ (F.hdAt j).In W0 ∧ FitJ (F.hdAt j) (F.kidsAt j)) := by
      obtain ⟨_, x2, x3, x4⟩ := Vo.from_at hFr hjF
      exact ⟨⟨x2, x3⟩, x4, fitJ_at hjF HIn.out.1.2⟩
    have hsn := nameAt_some (ns := ns) (i := j) (by rw [HNm.out.1.1]; exact hjF)
    have hcl := HNm.out.1.2 j
    obtain ⟨nb, no, e1, hSn⟩ : ∃ nb no, na = some ⟨nb, no, none⟩ ∧ SFrom W0 ns nb no := by
      rcases HNm.out.2 with e | ⟨nb, no, e, hS⟩
      · rw [e] at hsn; simp at hsn
      · exact ⟨nb, no, e, hS⟩
    subst e1
    have hnb : nb < B := Nat.lt_of_lt_of_le (World.block_lt_of_cell? W0 _ (hSn.at hsn).1) hWB
    have hjn2 : (j : Int) < (ns.length : Int) := by rw [HNm.out.1.1, HNl.out]; exact hjl
    have HSn : Hid (∀ W, Below B w W → W.cell? ⟨nb, no + j, none⟩ = some (.string (nameAt ns j))) := fun W hW => ((hSn.grow (HIn.out.2.trans (hW.mono hWB))).at hsn).1
    have HBV := hideIt (Box.new wr 28 (vCells (F.hdAt j) (F.addrAt j) (F.kidsAt j).len (F.capAt j)))
    have hal := (Below.refl _ wr).alloc (Nat.le_refl _) (.cells (vCells (F.hdAt j) (F.addrAt j) (F.kidsAt j).len (F.capAt j)).toArray 28)
    have HXa := hideIt (HXj.out.below hal HXj.out.lt)
    have HVa := hideIt (HVj.out.below hal HVj.out.lt)
    have HWa := hideIt (HWj.out.alloc (.cells (vCells (F.hdAt j) (F.addrAt j) (F.kidsAt j).len (F.capAt j)).toArray 28))
    have hvk : wr.heap.size ≠ kb := by omega
    clear ck ch hFr HXj HVj HWj hal hsn hSn hbw
    unfold vCells at HBV HXa HVa HWa
    have HP : Hid (tlines ns F (j + 1) = tlines ns F j ++ (if (F.hdAt j).k = 6 then [] else (nameAt ns j).data.toList ++ ([32, 61, 32] ++ (jtext [] [] 200 (F.hdAt j) (F.kidsAt j) [] ++ [10])))) := rfl
    have hklen := jtext_len (step := []) (gap := []) (by simp) (by simp) 200 (F.hdAt j) (F.kidsAt j) [] (by simp only [List.length_nil]; omega) HKid.out.2.2
    obtain ⟨A, hA⟩ : ∃ A, A = tlines ns F j := ⟨_, rfl⟩
    have hljA : A.length ≤ 30000 * F.sumJ j := by rw [hA]; have := hlj.out; omega
    rw [← hA] at HWa HP
    clear hA hlj HT
    generalize F.hdAt j = xh at *
    generalize F.kidsAt j = xk at *
    generalize F.addrAt j = xa at *
    generalize F.capAt j = xc at *
    generalize nameAt ns j = nm at *
    have hnl := Qm.len_eq nm
    by_cases hk : xh.k = 6
    · have hk' : (xh.k != 6) = false := by simp [bne, hk]
      have HKk := hideIt hk
      clear hk
      go_wp2_with fail
      go_round
      case rel =>
        refine ⟨j + 1, by go_num, by omega, ?_, HXa.out, HVa.out⟩
        rw [HP.out, if_pos HKk.out, List.append_nil]
        exact HWa.out
      case measure => simp [intOf]; omega
    · have hk' : (xh.k != 6) = true := by simp [bne, hk]
      have HKk := hideIt hk
      clear hk
      go_wp2_with fail
      refine lo5 (s := nm) (j := j) HXa.out HVa.out (HSn.out _ HWa.out.2.1) hnb hjn2 hne hne1 HWa.out (by rw [List.length_append]; omega) (fun _ d _ _ _ h => by cases d <;> exact h) ?_
      intro w5 v21 v22 v23 v24 v25 v26 v27 v28 v29 v30 v31 h5 hk5
      have HW5 := hideIt h5
      have HX5 := hideIt (HXa.out.kept hk5 hne (by decide))
      have HV5 := hideIt (HVa.out.kept hk5 hne1 (by decide))
      have HB5 := hideIt (HBV.out.kept hk5 hvk (by decide))
      clear h5 hk5 HWa HXa HVa HBV c0 c1 c2 c3 c4 c5
      obtain ⟨x0, x1, x2, x3, x4, x5, x6⟩ := lw_cells HX5.out
      obtain ⟨z0, z1, z2, z3, z4, z5⟩ := v_cells HB5.out
      go_wp2_with fail
      clear x0 x1 x2 x3 x4 x5 x6 z0 z1 z2 z3 z4 z5 HB5
      refine (value_all 200 xh xa xc xk ⟨#[]⟩ (acc ++ A ++ (nm.data.toList ++ [32, 61, 32])) B kb ⟨#[]⟩ ⟨#[]⟩ w5 W0 (by omega) (by show 0 + 2 * 200 ≤ 1000; omega) (by show 0 ≤ 2; omega) (by show 0 ≤ 2; omega) (by simp only [List.length_append, List.length_cons, List.length_nil]; omega) HKid.out.2.2 HKid.out.1.1 HKid.out.1.2.1 HKid.out.1.2.2 HKid.out.2.1 hWB hBk (HIn.out.2.trans (HW5.out.2.1.mono hWB)) HW5.out.1.1 HW5.out.1.2).mono ?_
      rintro r w6 ⟨rfl, h6⟩
      have HW6 := hideIt (HW5.out.then h6)
      have HX6 := hideIt (HX5.out.kept h6.2.2 hne (by decide))
      have HV6 := hideIt (HV5.out.kept h6.2.2 hne1 (by decide))
      clear h6 HW5 HX5 HV5
      obtain ⟨x0, x1, x2, x3, x4, x5, x6⟩ := lw_cells HX6.out
      go_wp2_with fail
      refine (Wr.text HW6.out ⟨#[10]⟩ (l := [10]) rfl (by simp only [List.length_append, List.length_cons, List.length_nil]; show _ + (jtext [] [] 200 xh xk []).length + _ ≤ _; omega)).mono ?_
      rintro e w7 ⟨rfl, h7, hk7, -⟩
      have HW7 := hideIt h7
      have HX7 := hideIt (HX6.out.kept hk7 hne (by decide))
      have HV7 := hideIt (HV6.out.kept hk7 hne1 (by decide))
      clear h7 hk7 HW6 HX6 HV6 x0 x1 x2 x3 x4 x5 x6
      go_wp2_with fail
      go_round
      case rel =>
        refine ⟨j + 1, by go_num, by omega, ?_, HX7.out, HV7.out⟩
        have h9 := HW7.out
        rw [HP.out, if_neg HKk.out]
        simpa [List.append_assoc] using h9
      case measure => simp [intOf]; omega
theorem object_all (N : Nat) : ObC N := by
  induction N with
  | zero => intro hd a c F path acc B kb w W0 hF; omega
  | succ N ih => exact object_step N ih
end Go.Proofs.Ytfgchdnpbbgmjaa
/- Values as lines, by the program: which are flat. -/
namespace Go.Proofs.Ytfgchdnpbbgmjaa
open Go.RowKit Go.Shelf
attribute [local go_sem] Oper.semAt_some cell_alloc_is frozen_alloc_is
/-- all in a list so far are no nulls and no objects -/
def GoodF {w : World} (pre : List (TV w)) : Prop := ∀ x ∈ pre, x.h.k ≠ 0 ∧ x.h.k ≠ 6
theorem flat_all : ∀ (F : Vo) (d : Nat), F.allFlat ↔ ∀ x ∈ F.flat d, x.2.1.k ≠ 0 ∧ x.2.1.k ≠ 6 := by
  intro F
  induction F with
  | nil => intro d; simp [Vo.allFlat, Vo.flat]
  | cons h a c kids next ih1 ih2 =>
    intro d
    show ((h.k ≠ 0 ∧ h.k ≠ 6) ∧ kids.allFlat) ∧ next.allFlat ↔ _
    rw [ih1 (d + 1), ih2 d]
    simp only [Vo.flat, List.mem_cons, List.mem_append]
    constructor
    · rintro ⟨⟨h1, h2⟩, h3⟩ x (rfl | hx | hx)
      · exact h1
      · exact h2 x hx
      · exact h3 x hx
    · exact fun q => ⟨⟨q _ (.inl rfl), fun x hx => q x (.inr (.inl hx))⟩, fun x hx => q x (.inr (.inr hx))⟩
set_option maxRecDepth 100000 in
set_option maxHeartbeats 2000000 in
theorem isFlat_any (h : Hd) (a : Option Addr) (c : Nat) (F : Vo) (w : World) (hF : F.size ≤ 2000000) (hin : F.In w a) (hl : F.len ≤ c) (hc : c ≤ maxLen) (hh : h.In w) :
    Calls Try.prog 56 #[valV h a F.len c] w fun r w' => SaysT (flatV h F) r ∧ Below w.heap.size w w' := by
  refine (callsIn_wide (n := 5)).1 ?_
  refine callsIn_of_wp_marks Try.func56 rfl trivial ?_ rfl
  simp only [Try.ntmps56, List.size_toArray, List.length_cons, List.length_nil, Nat.reduceAdd, Nat.reduceSub, Array.replicate_succ, Array.replicate_zero, List.push_toArray, List.append_toArray, List.nil_append, List.cons_append]
  gi_wp2_with fail
  refine ⟨trivial, (callsIn_wide.2 (allOfV_any h a F.len c _)).mono ?_⟩
  rintro r W0' ⟨rfl, rfl⟩
  obtain ⟨W3, hW3⟩ : ∃ W3, (w.alloc (.cells #[.int .i64 h.k, .int .i64 h.m, .int .i64 h.e, .string h.t, .slice a F.len c, .slice h.na h.ns.length h.nc] 28)).alloc (.cells #[.bool false] 4) = W3 := ⟨_, rfl⟩
  have hs3 : W3.heap.size = w.heap.size + 2 := by rw [← hW3]; simp
  have hB3 : Below w.heap.size w W3 := by rw [← hW3]; exact ((Below.refl _ w).alloc (Nat.le_refl _) _).alloc (by simp) _
  have hR3 : W3.heap[w.heap.size + 1]? = some (.cells #[.bool false] 4 (0, 0)) := by
    rw [← hW3]
    have := World.alloc_heap_new (w.alloc (.cells #[.int .i64 h.k, .int .i64 h.m, .int .i64 h.e, .string h.t, .slice a F.len c, .slice h.na h.ns.length h.nc] 28)) (.cells #[.bool false] 4)
    rwa [World.size_alloc] at this
  rw [hW3]
  clear hW3
  obtain ⟨W0, hW0⟩ : ∃ W0, W3.alloc (.cells #[.int .i64 h.k, .int .i64 h.m, .int .i64 h.e, .string h.t, .slice a F.len c, .slice h.na h.ns.length h.nc] 28) = W0 := ⟨_, rfl⟩
  have hbx : Below W3.heap.size W3 W0 := by rw [← hW0]; exact (Below.refl _ _).alloc (Nat.le_refl _) _
  have hX0 : BxV W3.heap.size h (.slice a F.len c) W0 := by rw [← hW0]; exact BxV.new W3 h (.slice a F.len c) 28
  obtain ⟨n0, n1, n2, n3, n4, n5⟩ := hX0
  have hsz : W0.heap.size = w.heap.size + 3 := by rw [← hW0]; simp; omega
  have hBW : Below w.heap.size w W0 := hB3.trans (hbx.mono (by omega))
  have hR0 := (hbx.block _ (by omega)).trans hR3
  rw [hW0]
  clear hW0 hR3 hB3 hbx
  rw [hs3] at n0 n1 n2 n3 n4 n5 ⊢
  clear hs3
  gi_wp2_with fail
  refine wpIn_rangeFunc_ownH rfl (by omega) (gf := 84) (lb := #[.pointer (some ⟨w.heap.size + 2, 0, none⟩)]) rfl trivial (enters_of Try.func84 (by kernel_rfl) rfl)
    (allV_stops w 4 w.heap.size W0.heap.size (w.heap.size + 2) ⟨1, h, a, F, c, hin, hl, hc, hh⟩ W0 rfl (by show F.size ≤ 2000000; omega) (Nat.le_refl _) (Nat.le_refl _) (Sub.of_below hBW) n0 n1 n2 n3 n4 n5)
    Kept.trans (fun W l o o' hl' h hcl _ => ⟨(grownBy_putObj' W l o').size, fun j x hx hxc _ => ((grownBy_putObj' W l o').block j (Array.getElem?_eq_some_iff.1 hx).1 (by intro e; cases e; rw [h] at hx; cases hx; rw [hcl] at hxc; cases hxc)).trans hx⟩)
    (Below.refl _ _) (fun _ => rfl)
    (fun pre W => (W.heap[w.heap.size + 1]? = some (.cells #[.bool false] 4 (0, 0)) ∧ (GoodF pre ∧ W0.heap.size ≤ W.heap.size)) ∧ Below w.heap.size w W)
    (fun cd pre W => ((cd = .ret ∧ ¬ GoodF pre) ∧ W.heap[w.heap.size + 1]? = some (.cells #[.bool false] 4 (0, 0))) ∧ Below w.heap.size w W)
    (OwnFrom.and (fun s W W' row hs hg hr => ⟨own_blockV hg hr hs.1 (.inl (by omega)), hs.2.1, Nat.le_trans hs.2.2 hg.size⟩) (ownFrom_below (Nat.le_refl _) (by omega)))
    (fun cd => OwnFrom.and (fun s W W' row hs hg hr => ⟨hs.1, own_blockV hg hr hs.2 (.inl (by omega))⟩) (ownFrom_below (Nat.le_refl _) (by omega)))
    ⟨⟨hR0, by simp [GoodF], Nat.le_refl _⟩, hBW⟩
    (fun x a' W => ∃ Bx, W0.heap.size ≤ Bx ∧ W.heap[Bx]? = some (.cells #[.int .i64 x.h.k, .int .i64 x.h.m, .int .i64 x.h.e, .string x.h.t, .slice x.a x.kids.len x.c, .slice x.h.na x.h.ns.length x.h.nc] 28 (0, 0)) ∧ a' = { tmps := #[valV h a F.len c, .pointer (some ⟨w.heap.size, 0, none⟩), .pointer (some ⟨w.heap.size + 1, 0, none⟩), undef, .pointer (some ⟨Bx, 0, none⟩), valV h a F.len c, .func (.func 84) #[] #[.pointer (some ⟨w.heap.size + 2, 0, none⟩)], .int .i64 x.d, .agg #[.int .i64 x.h.k, .int .i64 x.h.m, .int .i64 x.h.e, .string x.h.t, .slice x.a x.kids.len x.c, .slice x.h.na x.h.ns.length x.h.nc], undef, undef, undef, undef, undef, undef, undef, undef], defers := [] })
    (fun x a' _ W W' row hs hg hr => by obtain ⟨Bx, e1, e2, e3⟩ := hs; exact ⟨Bx, e1, own_blockV hg hr e2 (.inr rfl), e3⟩)
    ?assign ?body ?done ?stop
  case assign =>
    rintro l pre x W K ⟨⟨hR, hg, hz⟩, hB⟩ hK
    have hbA : Below W.heap.size W (W.alloc (.cells #[.int .i64 x.h.k, .int .i64 x.h.m, .int .i64 x.h.e, .string x.h.t, .slice x.a x.kids.len x.c, .slice x.h.na x.h.ns.length x.h.nc] 28)) := (Below.refl _ W).alloc (Nat.le_refl _) _
    dsimp only [TV.enc]
    gi_wp2
    exact hK _ _ ((KeepsOthers.alloc _ _).from _) (Kept.of_below hbA)
      ⟨⟨(hbA.block _ (Array.getElem?_eq_some_iff.1 hR).1).trans hR, hg, Nat.le_trans hz hbA.size⟩, hB.trans (hbA.mono hB.size)⟩
      ⟨W.heap.size, hz, World.alloc_heap_new W _, rfl⟩
  case body =>
    rintro l pre x a' W hl' ⟨rr, hrr⟩ ⟨⟨hR, hg, hz⟩, hB⟩ ⟨Bx, hBx, hX, rfl⟩ hlt
    have x0 : W.cell? ⟨Bx, 0, none⟩ = some (.int .i64 x.h.k) := by simp [World.cell?, hX]
    have cR := (show Boxed W (w.heap.size + 1) 4 (.bool false) from hR).cell
    have fR := (show Boxed W (w.heap.size + 1) 4 (.bool false) from hR).frozen
    by_cases q0 : x.h.k = 0
    · have q0' : (x.h.k == 0) = true := by simp [q0]
      have HN : Hid (¬ GoodF (pre ++ [x])) := fun h => (h x (by simp)).1 q0
      clear q0
      gi_wp2_with fail
      refine ⟨(KeepsOthers.setCell _ _ _).from _, ⟨⟨rfl, HN.out⟩, Boxed.set (.bool false) (show Boxed W (w.heap.size + 1) 4 (.bool false) from hR)⟩, hB.setCell (p := ⟨w.heap.size + 1, 0, none⟩) (by show _ ≤ _ + 1; omega) _⟩
    · have q0' : (x.h.k == 0) = false := by simp [q0]
      by_cases q6 : x.h.k = 6
      · have q6' : (x.h.k == 6) = true := by simp [q6]
        have HN : Hid (¬ GoodF (pre ++ [x])) := fun h => (h x (by simp)).2 q6
        clear q0 q6
        gi_wp2_with fail
        refine ⟨(KeepsOthers.setCell _ _ _).from _, ⟨⟨rfl, HN.out⟩, Boxed.set (.bool false) (show Boxed W (w.heap.size + 1) 4 (.bool false) from hR)⟩, hB.setCell (p := ⟨w.heap.size + 1, 0, none⟩) (by show _ ≤ _ + 1; omega) _⟩
      · have q6' : (x.h.k == 6) = false := by simp [q6]
        have HY : Hid (GoodF (pre ++ [x])) := fun y hy => by
          rcases List.mem_append.1 hy with hy | hy
          · exact hg y hy
          · obtain rfl : y = x := by simpa using hy
            exact ⟨q0, q6⟩
        clear q0 q6
        gi_wp2_with fail
        exact ⟨(KeepsOthers.refl _).from _, ⟨Nat.le_refl _, fun j o ho _ _ => ho⟩, ⟨hR, HY.out, by omega⟩, hB⟩
  case done =>
    rintro D ys W hD hS ⟨⟨hR, hg, _⟩, hB⟩ hK
    have cR := (show Boxed W (w.heap.size + 1) 4 (.bool false) from hR).cell
    have fR := (show Boxed W (w.heap.size + 1) 4 (.bool false) from hR).frozen
    gi_wp2
    have hK' := (KeepsOthers.setCell W ⟨w.heap.size + 1, 0, none⟩ (.bool true)).same D _ hK rfl
    refine ⟨by simp, .inl ⟨_, _, rfl, run_takeDeferred hK', ?_⟩⟩
    have hc5 := cell_kept (Boxed.set (.bool true) (show Boxed W (w.heap.size + 1) 4 (.bool false) from hR)).cell (grownBy_putObj' _ D (.deferred none)) (fun r e => by cases e; exact ⟨_, hK', rfl⟩)
    refine ⟨.bool true, ?_, ⟨true, rfl, ?_⟩, (hB.setCell (p := ⟨w.heap.size + 1, 0, none⟩) (by show _ ≤ _ + 1; omega) _).trans (belowK_b (w := w) (Nat.le_refl _) _ D _ _ (by omega) hK' rfl rfl)⟩
    · simp [results, Try.results56, go_sem, hc5]
    · have hS' : ys.map TV.raw = (1, h, F) :: F.flat 2 := hS
      have hall : ∀ z ∈ (1, h, F) :: F.flat 2, z.2.1.k ≠ 0 ∧ z.2.1.k ≠ 6 := by
        rw [← hS']
        intro z hz
        obtain ⟨y, hy, rfl⟩ := List.mem_map.1 hz
        exact hg y hy
      refine ⟨fun _ => ⟨hall (1, h, F) (by simp), (flat_all F 2).2 (fun z hz => hall z (by simp [hz]))⟩, fun _ => rfl⟩
  case stop =>
    rintro D cd pre W hD hpre ⟨⟨⟨rfl, hng⟩, hR⟩, hB⟩ hK
    gi_wp2
    refine ⟨by simp, .inl ⟨_, _, rfl, run_takeDeferred hK, ?_⟩⟩
    have hc5 := cell_kept (show Boxed W (w.heap.size + 1) 4 (.bool false) from hR).cell (grownBy_putObj' _ D (.deferred none)) (fun r e => by cases e; exact ⟨_, hK, rfl⟩)
    refine ⟨.bool false, ?_, ⟨false, rfl, ?_⟩, hB.trans (belowK_b (w := w) (Nat.le_refl _) W D _ _ (by omega) hK rfl rfl)⟩
    · simp [results, Try.results56, go_sem, hc5]
    · have hS' : pre.map TV.raw <+: (1, h, F) :: F.flat 2 := hpre
      refine ⟨fun h => (by cases h), fun hf => absurd (fun y hy => ?_ : GoodF pre) hng⟩
      have hm : y.raw ∈ (1, h, F) :: F.flat 2 := hS'.subset (List.mem_map.2 ⟨y, hy, rfl⟩)
      rcases List.mem_cons.1 hm with e | e
      · have : y.h = h := congrArg (fun z => z.2.1) e
        rw [this]; exact hf.1
      · exact (flat_all F 2).1 hf.2 _ e
end Go.Proofs.Ytfgchdnpbbgmjaa
/- Values as lines, by the program: which fit. -/
namespace Go.Proofs.Ytfgchdnpbbgmjaa
open Go.RowKit
attribute [local go_sem] cell_alloc_is frozen_alloc_is
/-- all that stand in a list are so -/
def Vo.allP (P : Hd → Vo → Prop) : Vo → Prop
  | .nil => True
  | .cons h _ _ kids next => P h kids ∧ next.allP P
theorem allFits_P (F : Vo) : F.allFits ↔ F.allP (fun h k => flatV h k ∨ fitsV h k) := by
  induction F with
  | nil => exact Iff.rfl
  | cons h a c kids next _ ih => exact and_congr Iff.rfl ih
set_option maxRecDepth 100000 in
set_option maxHeartbeats 1000000 in
theorem isToml_any (P : Hd → Vo → Prop) (h : Hd) (a : Option Addr) (c : Nat) (F : Vo) (w : World) (hF : F.size ≤ 2000000) (hin : F.In w a) (hl : F.len ≤ c) (hc : c ≤ maxLen)
    (hcall : ∀ (xh : Hd) (xa : Option Addr) (xc : Nat) (xk : Vo) (W : World), Below w.heap.size w W → xk.size < F.size → xk.In W xa → xk.len ≤ xc → xc ≤ maxLen → xh.In W → Calls Try.prog 55 #[valV xh xa xk.len xc] W fun r w' => SaysT (P xh xk) r ∧ Below W.heap.size W w') :
    Calls Try.prog 54 #[valV h a F.len c, .func (.func 55) #[] #[]] w fun r w' => SaysT (h.k = 6 ∧ F.allP P) r ∧ Below w.heap.size w w' := by
  unfold maxLen at hc
  have hll := F.len_le
  have hB0 := (Below.refl _ w).alloc (Nat.le_refl _) (.cells #[.int .i64 h.k, .int .i64 h.m, .int .i64 h.e, .string h.t, .slice a F.len c, .slice h.na h.ns.length h.nc] 28)
  have R0 := Row.new w [.int .i64 h.k, .int .i64 h.m, .int .i64 h.e, .string h.t, .slice a F.len c, .slice h.na h.ns.length h.nc] 28
  have hcell0 := (R0 0 _ rfl).1
  clear R0
  go_enter Try.func54, Try.ntmps54
  go_wp2_with fail
  go_loopw [10] (fun i wr => ∃ (j : Nat) (G : Vo), i = .int .i64 j ∧ j + G.len = F.len ∧ (F.allP P ↔ G.allP P) ∧ G.size ≤ F.size ∧ (G = .nil ∨ ∃ b o', a = some ⟨b, o', none⟩ ∧ G.From wr b (o' + j * 6)) ∧ wr.cell? ⟨w.heap.size, 0, none⟩ = some (.int .i64 h.k) ∧ Below w.heap.size w wr) (fun i _ => F.len - (intOf i).toNat)
  case atStart =>
    refine ⟨0, F, rfl, by omega, Iff.rfl, Nat.le_refl _, ?_, hcell0, hB0⟩
    rcases hin with h | ⟨b, o', e1, e2⟩
    · exact .inl h
    · exact .inr ⟨b, o', e1, by simpa using Vo.from_grow hB0 F b o' e2⟩
  case round =>
    obtain ⟨j, G, rfl, hj, hs, hs1, hG, hcell, hb⟩ := hrel
    have HA : Hid (F.allP P ↔ G.allP P) := hs
    clear hs hcell0
    cases G with
    | nil =>
      have hj' : j = F.len := by simpa [Vo.len] using hj
      have HR : Hid (F.allP P) := HA.out.2 trivial
      subst hj'
      clear hG hj HA hcall
      by_cases hk : h.k = 6
      · have hk' : (h.k == 6) = true := by simp [hk]
        have HK : Hid (h.k = 6) := hk
        clear hk
        go_wp2_with fail
        go_ret
        exact ⟨⟨true, rfl, fun _ => ⟨HK.out, HR.out⟩, fun _ => rfl⟩, hb⟩
      · have hk' : (h.k == 6) = false := by simp [hk]
        have HK : Hid (¬ h.k = 6) := hk
        clear hk
        go_wp2_with fail
        go_ret
        exact ⟨⟨false, rfl, fun h => (by cases h), fun h => absurd h.1 HK.out⟩, hb⟩
    | cons h' a' c' kids next =>
      rcases hG with hG | ⟨b, o', rfl, ⟨h1, h2, h3, h4, h5, h6⟩, hk, ⟨hc1, hc2⟩, hh', hn⟩
      · cases hG
      · have hln : j + (next.len + 1) = F.len := hj
        have hlt : (j : Int) < (F.len : Int) := by omega
        have hjl : j < F.len := by omega
        have hsz : kids.size + 1 + next.size ≤ F.size := hs1
        have hbx := (Below.refl _ wr).alloc (Nat.le_refl _) (.cells #[.int .i64 h'.k, .int .i64 h'.m, .int .i64 h'.e, .string h'.t, .slice a' kids.len c', .slice h'.na h'.ns.length h'.nc] 28)
        have hbb := hb.trans (hbx.mono hb.size)
        have HC := hideIt (hcall h' a' c' kids _ hbb (by omega) (Vo.In.grow (F := kids) hk hbx) hc1 hc2 (hh'.grow hbx))
        have HN2 := hideIt (Vo.from_grow hbx next b _ hn)
        have hcell1 := (hbx.cell (p := ⟨w.heap.size, 0, none⟩) (World.block_lt_of_cell? wr _ hcell)).trans hcell
        clear hj hs1 hin hcall hk hh' hn hbx
        go_wp2_with fail
        refine HC.out.mono ?_
        rintro r w2 ⟨⟨q, rfl, hq⟩, hb2⟩
        have HQ : Hid (q = true ↔ P h' kids) := hq
        have HN3 := hideIt (Vo.from_grow hb2 next b _ HN2.out)
        have hcell2 : w2.cell? ⟨w.heap.size, 0, none⟩ = some (.int .i64 h.k) := (hb2.cell (p := ⟨w.heap.size, 0, none⟩) (World.block_lt_of_cell? _ _ hcell1)).trans hcell1
        have hb3 := hbb.trans (hb2.mono hbb.size)
        clear h1 h2 h3 h4 h5 h6 hcell hcell1 hb2 hb hbb hq HC HN2
        cases q
        · have HN : Hid (¬ (h.k = 6 ∧ F.allP P)) := fun x => by
            have := HQ.out.2 (HA.out.1 x.2).1
            cases this
          go_wp2_with fail
          go_ret
          exact ⟨⟨false, rfl, fun h => (by cases h), fun h => absurd h HN.out⟩, hb3⟩
        · have HA2 : Hid (F.allP P ↔ next.allP P) := HA.out.trans ⟨fun x => x.2, fun x => ⟨HQ.out.1 rfl, x⟩⟩
          clear HQ HA
          go_wp2_with fail
          go_round
          case rel =>
            refine ⟨j + 1, next, by go_num, by omega, HA2.out, by omega, .inr ⟨b, o', rfl, ?_⟩, hcell2, hb3⟩
            rw [show o' + (j + 1) * 6 = o' + j * 6 + 6 by omega]; exact HN3.out
          case measure => simp [intOf]; omega
def FitC (N : Nat) : Prop := ∀ (h : Hd) (a : Option Addr) (c : Nat) (F : Vo) (w : World), F.size < N → N ≤ 2000000 → F.In w a → F.len ≤ c → c ≤ maxLen → h.In w →
  Calls Try.prog 23 #[valV h a F.len c] w fun r w' => SaysT (fitsV h F) r ∧ Below w.heap.size w w'
set_option maxRecDepth 100000 in
set_option maxHeartbeats 1000000 in
theorem fitsOne (N : Nat) (H : FitC N) (h : Hd) (a : Option Addr) (c : Nat) (F : Vo) (w : World) (hF : F.size < N) (hN : N ≤ 2000000) (hin : F.In w a) (hl : F.len ≤ c) (hc : c ≤ maxLen) (hh : h.In w) :
    Calls Try.prog 55 #[valV h a F.len c] w fun r w' => SaysT (flatV h F ∨ fitsV h F) r ∧ Below w.heap.size w w' := by
  have hB0 := (Below.refl _ w).alloc (Nat.le_refl _) (.cells #[.int .i64 h.k, .int .i64 h.m, .int .i64 h.e, .string h.t, .slice a F.len c, .slice h.na h.ns.length h.nc] 28)
  have X0 := BxV.new w h (.slice a F.len c) 28
  have HI : Hid (∀ W, Below w.heap.size w W → F.In W a ∧ h.In W) := fun W h' => ⟨hin.grow h', hh.grow h'⟩
  clear hin hh
  go_enter Try.func55, Try.ntmps55
  go_wp2_with fail
  refine (isFlat_any h a c F _ (by omega) (HI.out _ hB0).1 hl hc (HI.out _ hB0).2).mono ?_
  rintro r w1 ⟨⟨q, rfl, hq⟩, hb1⟩
  have HQ := hideIt hq
  have hB1 := hB0.trans (hb1.mono hB0.size)
  have X1 := X0.below hb1
  clear hq hb1 X0 hB0
  obtain ⟨x0, x1, x2, x3, x4, x5⟩ := id X1
  cases q
  · have HN : Hid (¬ flatV h F) := fun x => by have := HQ.out.2 x; cases this
    go_wp2_with fail
    refine (H h a c F _ hF hN (HI.out _ hB1).1 hl hc (HI.out _ hB1).2).mono ?_
    rintro r w2 ⟨⟨q, rfl, hq⟩, hb2⟩
    have HQ2 := hideIt hq
    have hB2 := hB1.trans (hb2.mono hB1.size)
    clear hq x0 x1 x2 x3 x4 x5
    go_wp2_with fail
    go_ret
    exact ⟨⟨q, rfl, fun e => .inr (HQ2.out.1 e), fun x => x.elim (fun y => absurd y HN.out) HQ2.out.2⟩, hB2⟩
  · have HY : Hid (flatV h F) := by have y := HQ.out; exact y.1 rfl
    go_wp2_with fail
    go_ret
    exact ⟨⟨true, rfl, fun _ => .inl HY.out, fun _ => rfl⟩, hB1⟩
set_option maxRecDepth 100000 in
set_option maxHeartbeats 1000000 in
theorem fitsToml_all (N : Nat) : FitC N := by
  induction N with
  | zero => intro h a c F w hF; omega
  | succ N ih =>
    intro h a c F w hF hN hin hl hc hh
    have hB0 := (Below.refl _ w).alloc (Nat.le_refl _) (.cells #[.int .i64 h.k, .int .i64 h.m, .int .i64 h.e, .string h.t, .slice a F.len c, .slice h.na h.ns.length h.nc] 28)
    have HC := hideIt (isToml_any (fun h k => flatV h k ∨ fitsV h k) h a c F _ (by omega) (hin.grow hB0) hl hc (fun xh xa xc xk W hW hz hi h1 h2 h3 => fitsOne N ih xh xa xc xk W (by omega) (by omega) hi h1 h2 h3))
    clear hin hh
    go_enter Try.func23, Try.ntmps23
    go_wp2_with fail
    refine HC.out.mono ?_
    rintro r w1 ⟨⟨q, rfl, hq⟩, hb1⟩
    have HQ := hideIt hq
    have hB1 := hB0.trans (hb1.mono hB0.size)
    clear hq hb1 HC
    go_wp2_with fail
    go_ret
    exact ⟨⟨q, rfl, fun e => ⟨(HQ.out.1 e).1, (allFits_P F).2 (HQ.out.1 e).2⟩, fun x => HQ.out.2 ⟨x.1, (allFits_P F).1 x.2⟩⟩, hB1⟩
end Go.Proofs.Ytfgchdnpbbgmjaa
