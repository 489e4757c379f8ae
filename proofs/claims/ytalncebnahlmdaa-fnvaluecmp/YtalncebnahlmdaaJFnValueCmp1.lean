/- My own texts, joined: Vb Vd Ve Vf LexA LexB LexC Mp Kp Sa Sc Se. -/
import Derived.Test.YtalncebnahlmdaaJFnValueCmp0
import Derived.Deep.RegionHeld3
import Derived.Laws.MakeOwn
import Derived.Test.YtalncebnahlmdaaRows
import Derived.WalkKit
import Derived.WalkSpells
import Derived.WalkLawsBesides
import Derived.Test.YtalncebnahlmdaaProg
import Derived.Below
import Derived.WideMake
import Derived.Maps.Own
import Derived.RangeFuncRecord
import Derived.LaidEql
import Derived.Laws.StructEq
import Derived.WideKeyRuns
import Derived.Deep.AppendLies
import Derived.Deep.DeepCutAuto
/- Lists of texts: the laws' measure, copy and comparison, and slices.Equal. -/
namespace Go.Proofs.Ytalncebnahlmdaa
open Go.RowKit
attribute [local go_sem] cell_alloc_is frozen_alloc_is
theorem drop_cons {α : Type} {ss : List α} {j : Nat} {s : α} {t : List α} (h : ss.drop j = s :: t) : ss[j]? = some s ∧ ss.drop (j + 1) = t := by
  constructor
  · have : (ss.drop j)[0]? = some s := by rw [h]; rfl
    simpa using this
  · have : (ss.drop j).drop 1 = t := by rw [h]; rfl
    rw [List.drop_drop] at this
    exact this
theorem strInfo : (Try.prog.info? 9).map (fun i => (i.zero, i.size, i.bytes)) = some (some (.string ⟨#[]⟩), 1, 16) := by kernel_rfl
theorem make_strs (n : Nat) (hn : n ≤ 2000000) (w : World) : (Instr.makeSlice 26 (.int .i64 (n : Int)) (.int .i64 (n : Int))).run Try.prog w = .ok (.slice (some ⟨w.heap.size, 0, none⟩) n n) (w.alloc (.cells (madeCells #[.string ⟨#[]⟩] n) 9)) := by
  obtain ⟨i, hi, hzz⟩ := Option.map_eq_some_iff.1 strInfo
  simp only [Prod.mk.injEq] at hzz
  obtain ⟨hz, hs, hb⟩ := hzz
  have hr := run_make (P := Try.prog) w 26 9 i _ Try.underlying26 hi hz .i64 .i64 n n (by omega) (Int.le_refl _) (by rw [hb]; omega) (by omega)
  simp only [Int.toNat_natCast, hs, Nat.mul_one] at hr
  exact hr
set_option maxRecDepth 100000 in
set_option maxHeartbeats 1000000 in
theorem es6 {Q : Exit → Act → World → Prop} {t2 t3 t4 t6 t7 t8 t9 t10 t11 t12 t13 t14 t15 t16 t17 t18 t19 t20 t21 t22 t23 t24 t25 : Value} {W : World} {b o n c b2 o2 n2 c2 j : Nat} {s s2 : ByteArray} {q : Bool}
    (hj : (j : Int) < (n : Int)) (hj2 : (j : Int) < (n2 : Int)) (h1 : W.cell? ⟨b, o + j, none⟩ = some (.string s)) (h2 : W.cell? ⟨b2, o2 + j, none⟩ = some (.string s2)) (hq : (s.toList == s2.toList) = !q)
    (hp : ∀ p d v a w, Q (.panic p) (Act.put a d v) w → Q (.panic p) a w) (h : ∀ ws v17 v18 v19 v20 v21 v22 v23 v24, Below W.heap.size W ws → Q .normal { tmps := ((.slice (some ⟨b, o, none⟩) n c) :: (.slice (some ⟨b2, o2, none⟩) n2 c2) :: t2 :: t3 :: t4 :: (.int .i64 (j : Nat)) :: t6 :: t7 :: t8 :: t9 :: t10 :: t11 :: t12 :: t13 :: t14 :: t15 :: t16 :: v17 :: v18 :: v19 :: v20 :: v21 :: v22 :: v23 :: v24 :: .bool q :: []).toArray, defers := [] } ws) :
    Code.wp Try.prog (Code.region 6 #[{ dst := some 17, op := Op.move (Operand.tmp 0), type := 26, pos := "exact.go:261", after := #[], guard := none }, { dst := some 18, op := Op.move (Operand.tmp 5), type := 3, pos := "exact.go:261", after := #[], guard := none }, { dst := some 19, op := Op.indexAddr 26 (Operand.tmp 17) (Operand.tmp 18), type := 0, pos := "exact.go:261", after := #[{ on := 0, ground := Ground.data }, { on := 1, ground := Ground.data }], guard := none }, { dst := some 20, op := Op.load 9 (Operand.tmp 19), type := 9, pos := "exact.go:261", after := #[{ on := 2, ground := Ground.data }], guard := none }, { dst := some 21, op := Op.move (Operand.tmp 1), type := 26, pos := "exact.go:261", after := #[], guard := none }, { dst := some 22, op := Op.move (Operand.tmp 5), type := 3, pos := "exact.go:261", after := #[], guard := none }, { dst := some 23, op := Op.indexAddr 26 (Operand.tmp 21) (Operand.tmp 22), type := 0, pos := "exact.go:261", after := #[{ on := 4, ground := Ground.data }, { on := 5, ground := Ground.data }], guard := none }, { dst := some 24, op := Op.load 9 (Operand.tmp 23), type := 9, pos := "exact.go:261", after := #[{ on := 6, ground := Ground.data }], guard := none }, { dst := some 25, op := Op.binOp BinOp.neq 9 (Operand.tmp 20) (Operand.tmp 24) 9, type := 4, pos := "exact.go:261", after := #[{ on := 3, ground := Ground.data }, { on := 7, ground := Ground.data }], guard := none }] true) Q { tmps := ((.slice (some ⟨b, o, none⟩) n c) :: (.slice (some ⟨b2, o2, none⟩) n2 c2) :: t2 :: t3 :: t4 :: (.int .i64 (j : Nat)) :: t6 :: t7 :: t8 :: t9 :: t10 :: t11 :: t12 :: t13 :: t14 :: t15 :: t16 :: t17 :: t18 :: t19 :: t20 :: t21 :: t22 :: t23 :: t24 :: t25 :: []).toArray, defers := [] } W := by
  have hS0 : W.drew.cell? ⟨b, o + j, none⟩ = some (.string s) ∧ W.drew.cell? ⟨b2, o2 + j, none⟩ = some (.string s2) := ⟨h1, h2⟩
  refine wp_region_held_drew (S := fun w' => w'.cell? ⟨b, o + j, none⟩ = some (.string s) ∧ w'.cell? ⟨b2, o2 + j, none⟩ = some (.string s2)) (by kernel_rfl) hS0 (fun hHeld => ?_)
  refine wpAnyH_take (i := 0) (v := .slice (some ⟨b, o, none⟩) n c) rfl (by kernel_rfl) (by kernel_rfl) (by kernel_rfl) (fun _ _ _ h => hp _ _ _ _ _ h) (Or.inl ⟨by rfl, ?_⟩) (by assumption) ?_
  · intro w hSw
    (try dsimp only at hSw)
    go_simp
  (try simp only [Act.put, List.getElem_toArray, List.getElem_cons_zero, List.setIfInBounds_toArray, List.set_cons_zero, List.set_cons_succ])
  refine wpAnyH_take (i := 1) (v := .int .i64 (j : Nat)) rfl (by kernel_rfl) (by kernel_rfl) (by kernel_rfl) (fun _ _ _ h => hp _ _ _ _ _ h) (Or.inl ⟨by rfl, ?_⟩) (by assumption) ?_
  · intro w hSw
    (try dsimp only at hSw)
    go_simp
  (try simp only [Act.put, List.getElem_toArray, List.getElem_cons_zero, List.getElem_cons_succ, List.setIfInBounds_toArray, List.set_cons_zero, List.set_cons_succ])
  refine wpAnyH_take (i := 2) (v := .pointer (some ⟨b, o + j, none⟩)) rfl (by kernel_rfl) (by kernel_rfl) (by kernel_rfl) (fun _ _ _ h => hp _ _ _ _ _ h) (Or.inl ⟨by rfl, ?_⟩) (by assumption) ?_
  · intro w hSw
    (try dsimp only at hSw)
    go_simp
  (try simp only [Act.put, List.getElem_toArray, List.getElem_cons_zero, List.getElem_cons_succ, List.setIfInBounds_toArray, List.set_cons_zero, List.set_cons_succ])
  refine wpAnyH_take (i := 3) (v := .string s) rfl (by kernel_rfl) (by kernel_rfl) (by kernel_rfl) (fun _ _ _ h => hp _ _ _ _ _ h) (Or.inl ⟨by rfl, ?_⟩) (by assumption) ?_
  · intro w hSw
    (try dsimp only at hSw)
    go_simp
  (try simp only [Act.put, List.getElem_toArray, List.getElem_cons_zero, List.getElem_cons_succ, List.setIfInBounds_toArray, List.set_cons_zero, List.set_cons_succ])
  refine wpAnyH_take (i := 4) (v := .slice (some ⟨b2, o2, none⟩) n2 c2) rfl (by kernel_rfl) (by kernel_rfl) (by kernel_rfl) (fun _ _ _ h => hp _ _ _ _ _ h) (Or.inl ⟨by rfl, ?_⟩) (by assumption) ?_
  · intro w hSw
    (try dsimp only at hSw)
    go_simp
  (try simp only [Act.put, List.getElem_toArray, List.getElem_cons_zero, List.getElem_cons_succ, List.setIfInBounds_toArray, List.set_cons_zero, List.set_cons_succ])
  refine wpAnyH_take (i := 5) (v := .int .i64 (j : Nat)) rfl (by kernel_rfl) (by kernel_rfl) (by kernel_rfl) (fun _ _ _ h => hp _ _ _ _ _ h) (Or.inl ⟨by rfl, ?_⟩) (by assumption) ?_
  · intro w hSw
    (try dsimp only at hSw)
    go_simp
  (try simp only [Act.put, List.getElem_toArray, List.getElem_cons_zero, List.getElem_cons_succ, List.setIfInBounds_toArray, List.set_cons_zero, List.set_cons_succ])
  refine wpAnyH_take (i := 6) (v := .pointer (some ⟨b2, o2 + j, none⟩)) rfl (by kernel_rfl) (by kernel_rfl) (by kernel_rfl) (fun _ _ _ h => hp _ _ _ _ _ h) (Or.inl ⟨by rfl, ?_⟩) (by assumption) ?_
  · intro w hSw
    (try dsimp only at hSw)
    go_simp
  (try simp only [Act.put, List.getElem_toArray, List.getElem_cons_zero, List.getElem_cons_succ, List.setIfInBounds_toArray, List.set_cons_zero, List.set_cons_succ])
  refine wpAnyH_take (i := 7) (v := .string s2) rfl (by kernel_rfl) (by kernel_rfl) (by kernel_rfl) (fun _ _ _ h => hp _ _ _ _ _ h) (Or.inl ⟨by rfl, ?_⟩) (by assumption) ?_
  · intro w hSw
    (try dsimp only at hSw)
    go_simp
  (try simp only [Act.put, List.getElem_toArray, List.getElem_cons_zero, List.getElem_cons_succ, List.setIfInBounds_toArray, List.set_cons_zero, List.set_cons_succ])
  refine wpAnyH_take (i := 8) (v := .bool q) rfl (by kernel_rfl) (by kernel_rfl) (by kernel_rfl) (fun _ _ _ h => hp _ _ _ _ _ h) (Or.inl ⟨by rfl, ?_⟩) (by assumption) ?_
  · intro w hSw
    (try dsimp only at hSw)
    go_simp
  (try simp only [Act.put, List.getElem_toArray, List.getElem_cons_zero, List.getElem_cons_succ, List.setIfInBounds_toArray, List.set_cons_zero, List.set_cons_succ])
  refine wpAnyH_done (by kernel_rfl) ?_ _
  exact h _ _ _ _ _ _ _ _ _ ((Below.refl W.heap.size W).drew)
set_option maxRecDepth 100000 in
set_option maxHeartbeats 1000000 in
theorem sq6 {Q : Exit → Act → World → Prop} {t2 t3 t4 t6 t7 t8 t9 t10 t11 t12 t13 t14 t15 t16 t17 t18 t19 t20 t21 t22 t23 t24 t25 : Value} {W : World} {b o n c b2 o2 n2 c2 j : Nat} {s s2 : ByteArray} {q : Bool}
    (hj : (j : Int) < (n : Int)) (hj2 : (j : Int) < (n2 : Int)) (h1 : W.cell? ⟨b, o + j, none⟩ = some (.string s)) (h2 : W.cell? ⟨b2, o2 + j, none⟩ = some (.string s2)) (hq : (s.toList == s2.toList) = !q)
    (hp : ∀ p d v a w, Q (.panic p) (Act.put a d v) w → Q (.panic p) a w) (h : ∀ ws v16 v17 v18 v19 v20 v21 v22 v23, Below W.heap.size W ws → Q .normal { tmps := ((.slice (some ⟨b, o, none⟩) n c) :: (.slice (some ⟨b2, o2, none⟩) n2 c2) :: t2 :: t3 :: t4 :: (.int .i64 (j : Nat)) :: t6 :: t7 :: t8 :: t9 :: t10 :: t11 :: t12 :: t13 :: t14 :: t15 :: v16 :: v17 :: v18 :: v19 :: v20 :: v21 :: v22 :: v23 :: .bool q :: t25 :: []).toArray, defers := [] } ws) :
    Code.wp Try.prog (Code.region 6 #[{ dst := some 16, op := Op.move (Operand.tmp 0), type := 26, pos := "slices.go:25", after := #[], guard := none }, { dst := some 17, op := Op.move (Operand.tmp 5), type := 3, pos := "slices.go:25", after := #[], guard := none }, { dst := some 18, op := Op.indexAddr 26 (Operand.tmp 16) (Operand.tmp 17), type := 0, pos := "slices.go:25", after := #[{ on := 0, ground := Ground.data }, { on := 1, ground := Ground.data }], guard := none }, { dst := some 19, op := Op.load 9 (Operand.tmp 18), type := 9, pos := "slices.go:25", after := #[{ on := 2, ground := Ground.data }], guard := none }, { dst := some 20, op := Op.move (Operand.tmp 1), type := 26, pos := "slices.go:25", after := #[], guard := none }, { dst := some 21, op := Op.move (Operand.tmp 5), type := 3, pos := "slices.go:25", after := #[], guard := none }, { dst := some 22, op := Op.indexAddr 26 (Operand.tmp 20) (Operand.tmp 21), type := 0, pos := "slices.go:25", after := #[{ on := 4, ground := Ground.data }, { on := 5, ground := Ground.data }], guard := none }, { dst := some 23, op := Op.load 9 (Operand.tmp 22), type := 9, pos := "slices.go:25", after := #[{ on := 6, ground := Ground.data }], guard := none }, { dst := some 24, op := Op.binOp BinOp.neq 9 (Operand.tmp 19) (Operand.tmp 23) 9, type := 4, pos := "slices.go:25", after := #[{ on := 3, ground := Ground.data }, { on := 7, ground := Ground.data }], guard := none }] true) Q { tmps := ((.slice (some ⟨b, o, none⟩) n c) :: (.slice (some ⟨b2, o2, none⟩) n2 c2) :: t2 :: t3 :: t4 :: (.int .i64 (j : Nat)) :: t6 :: t7 :: t8 :: t9 :: t10 :: t11 :: t12 :: t13 :: t14 :: t15 :: t16 :: t17 :: t18 :: t19 :: t20 :: t21 :: t22 :: t23 :: t24 :: t25 :: []).toArray, defers := [] } W := by
  have hS0 : W.drew.cell? ⟨b, o + j, none⟩ = some (.string s) ∧ W.drew.cell? ⟨b2, o2 + j, none⟩ = some (.string s2) := ⟨h1, h2⟩
  refine wp_region_held_drew (S := fun w' => w'.cell? ⟨b, o + j, none⟩ = some (.string s) ∧ w'.cell? ⟨b2, o2 + j, none⟩ = some (.string s2)) (by kernel_rfl) hS0 (fun hHeld => ?_)
  refine wpAnyH_take (i := 0) (v := .slice (some ⟨b, o, none⟩) n c) rfl (by kernel_rfl) (by kernel_rfl) (by kernel_rfl) (fun _ _ _ h => hp _ _ _ _ _ h) (Or.inl ⟨by rfl, ?_⟩) (by assumption) ?_
  · intro w hSw
    (try dsimp only at hSw)
    go_simp
  (try simp only [Act.put, List.getElem_toArray, List.getElem_cons_zero, List.setIfInBounds_toArray, List.set_cons_zero, List.set_cons_succ])
  refine wpAnyH_take (i := 1) (v := .int .i64 (j : Nat)) rfl (by kernel_rfl) (by kernel_rfl) (by kernel_rfl) (fun _ _ _ h => hp _ _ _ _ _ h) (Or.inl ⟨by rfl, ?_⟩) (by assumption) ?_
  · intro w hSw
    (try dsimp only at hSw)
    go_simp
  (try simp only [Act.put, List.getElem_toArray, List.getElem_cons_zero, List.getElem_cons_succ, List.setIfInBounds_toArray, List.set_cons_zero, List.set_cons_succ])
  refine wpAnyH_take (i := 2) (v := .pointer (some ⟨b, o + j, none⟩)) rfl (by kernel_rfl) (by kernel_rfl) (by kernel_rfl) (fun _ _ _ h => hp _ _ _ _ _ h) (Or.inl ⟨by rfl, ?_⟩) (by assumption) ?_
  · intro w hSw
    (try dsimp only at hSw)
    go_simp
  (try simp only [Act.put, List.getElem_toArray, List.getElem_cons_zero, List.getElem_cons_succ, List.setIfInBounds_toArray, List.set_cons_zero, List.set_cons_succ])
  refine wpAnyH_take (i := 3) (v := .string s) rfl (by kernel_rfl) (by kernel_rfl) (by kernel_rfl) (fun _ _ _ h => hp _ _ _ _ _ h) (Or.inl ⟨by rfl, ?_⟩) (by assumption) ?_
  · intro w hSw
    (try dsimp only at hSw)
    go_simp
  (try simp only [Act.put, List.getElem_toArray, List.getElem_cons_zero, List.getElem_cons_succ, List.setIfInBounds_toArray, List.set_cons_zero, List.set_cons_succ])
  refine wpAnyH_take (i := 4) (v := .slice (some ⟨b2, o2, none⟩) n2 c2) rfl (by kernel_rfl) (by kernel_rfl) (by kernel_rfl) (fun _ _ _ h => hp _ _ _ _ _ h) (Or.inl ⟨by rfl, ?_⟩) (by assumption) ?_
  · intro w hSw
    (try dsimp only at hSw)
    go_simp
  (try simp only [Act.put, List.getElem_toArray, List.getElem_cons_zero, List.getElem_cons_succ, List.setIfInBounds_toArray, List.set_cons_zero, List.set_cons_succ])
  refine wpAnyH_take (i := 5) (v := .int .i64 (j : Nat)) rfl (by kernel_rfl) (by kernel_rfl) (by kernel_rfl) (fun _ _ _ h => hp _ _ _ _ _ h) (Or.inl ⟨by rfl, ?_⟩) (by assumption) ?_
  · intro w hSw
    (try dsimp only at hSw)
    go_simp
  (try simp only [Act.put, List.getElem_toArray, List.getElem_cons_zero, List.getElem_cons_succ, List.setIfInBounds_toArray, List.set_cons_zero, List.set_cons_succ])
  refine wpAnyH_take (i := 6) (v := .pointer (some ⟨b2, o2 + j, none⟩)) rfl (by kernel_rfl) (by kernel_rfl) (by kernel_rfl) (fun _ _ _ h => hp _ _ _ _ _ h) (Or.inl ⟨by rfl, ?_⟩) (by assumption) ?_
  · intro w hSw
    (try dsimp only at hSw)
    go_simp
  (try simp only [Act.put, List.getElem_toArray, List.getElem_cons_zero, List.getElem_cons_succ, List.setIfInBounds_toArray, List.set_cons_zero, List.set_cons_succ])
  refine wpAnyH_take (i := 7) (v := .string s2) rfl (by kernel_rfl) (by kernel_rfl) (by kernel_rfl) (fun _ _ _ h => hp _ _ _ _ _ h) (Or.inl ⟨by rfl, ?_⟩) (by assumption) ?_
  · intro w hSw
    (try dsimp only at hSw)
    go_simp
  (try simp only [Act.put, List.getElem_toArray, List.getElem_cons_zero, List.getElem_cons_succ, List.setIfInBounds_toArray, List.set_cons_zero, List.set_cons_succ])
  refine wpAnyH_take (i := 8) (v := .bool q) rfl (by kernel_rfl) (by kernel_rfl) (by kernel_rfl) (fun _ _ _ h => hp _ _ _ _ _ h) (Or.inl ⟨by rfl, ?_⟩) (by assumption) ?_
  · intro w hSw
    (try dsimp only at hSw)
    go_simp
  (try simp only [Act.put, List.getElem_toArray, List.getElem_cons_zero, List.getElem_cons_succ, List.setIfInBounds_toArray, List.set_cons_zero, List.set_cons_succ])
  refine wpAnyH_done (by kernel_rfl) ?_ _
  exact h _ _ _ _ _ _ _ _ _ ((Below.refl W.heap.size W).drew)
theorem text_ext {a b : ByteArray} (h : a.toList = b.toList) : a = b := by
  rw [ByteArray.toList_eq, ByteArray.toList_eq] at h
  cases a; cases b; simpa using h
theorem text_ne {a b : ByteArray} (h : a ≠ b) : (a.toList != b.toList) = true := by
  rw [bne_iff_ne]; exact fun e => h (text_ext e)
theorem text_eq (a : ByteArray) : (a.toList != a.toList) = false := by simp
set_option maxRecDepth 100000 in
set_option maxHeartbeats 1000000 in
theorem equalS_any (ss tt : List ByteArray) (a a2 : Option Addr) (c c2 : Nat) (w : World) (hin : SIn w ss a) (hin2 : SIn w tt a2) (hl : ss.length ≤ c) (hc : c ≤ maxLen) (hl2 : tt.length ≤ c2) :
    Calls Try.prog 78 #[.slice a ss.length c, .slice a2 tt.length c2] w fun r w' => r = .returned (.bool (decide (ss = tt))) ∧ Below w.heap.size w w' := by
  unfold maxLen at hc
  by_cases hlen : ss.length = tt.length
  · obtain ⟨N, hN⟩ : ∃ N, ss.length = N := ⟨_, rfl⟩
    have HN : Hid (ss.length = N) := hN
    have HN2 : Hid (tt.length = N) := hlen.symm.trans hN
    rw [← hlen, hN] at hl2 ⊢
    rw [hN] at hl
    clear hlen hN
    go_enter Try.func78, Try.ntmps78
    go_wp2_with fail
    go_loopw [13] (fun i wr => ∃ (j : Nat), i = .int .i64 j ∧ j ≤ N ∧ (∀ q, q < j → ss[q]? = tt[q]?) ∧ Below w.heap.size w wr) (fun i _ => N - (intOf i).toNat)
    case atStart => exact ⟨0, rfl, Nat.zero_le _, fun q hq => absurd hq (Nat.not_lt_zero _), Below.refl _ _⟩
    case round =>
      obtain ⟨j, rfl, hj, hP, hb⟩ := hrel
      have HP : Hid (∀ q, q < j → ss[q]? = tt[q]?) := hP
      clear hP
      by_cases hjn : j < N
      · have hlt : (j : Int) < (N : Int) := by omega
        obtain ⟨s, hs⟩ : ∃ s, ss[j]? = some s := ⟨ss[j]'(by rw [HN.out]; exact hjn), List.getElem?_eq_getElem _⟩
        obtain ⟨s2, hs2⟩ : ∃ s, tt[j]? = some s := ⟨tt[j]'(by rw [HN2.out]; exact hjn), List.getElem?_eq_getElem _⟩
        rcases hin with hin | ⟨b, o, rfl, hF⟩
        · rw [hin] at hs; simp at hs
        rcases hin2 with hin2 | ⟨b2, o2, rfl, hF2⟩
        · rw [hin2] at hs2; simp at hs2
        have h1 := ((hF.grow hb).at hs).1
        have h2 := ((hF2.grow hb).at hs2).1
        have HS : Hid (ss[j]? = some s ∧ tt[j]? = some s2) := ⟨hs, hs2⟩
        clear hs hs2 hF hF2
        by_cases he : s = s2
        · subst he
          go_wp2_with fail
          refine sq6 hlt hlt h1 h2 (q := false) (by simp) (fun _ d _ _ _ h => by cases d <;> exact h) ?_
          intro ws v16 v17 v18 v19 v20 v21 v22 v23 hb1
          have hb2 := hb.trans (hb1.mono hb.size)
          clear h1 h2 hb1 hb
          go_wp2_with fail
          go_round
          case rel =>
            refine ⟨j + 1, by go_num, by omega, fun q hq => ?_, hb2⟩
            by_cases e : q = j
            · rw [e, HS.out.1, HS.out.2]
            · exact HP.out q (by omega)
          case measure => simp [intOf]; omega
        · have hne := text_ne he
          have HR : Hid (decide (ss = tt) = false) := decide_eq_false fun e => he (by have := HS.out; rw [e] at this; exact Option.some.inj (this.1.symm.trans this.2))
          go_wp2_with fail
          refine sq6 hlt hlt h1 h2 (q := true) (by simpa using hne) (fun _ d _ _ _ h => by cases d <;> exact h) ?_
          intro ws v16 v17 v18 v19 v20 v21 v22 v23 hb1
          have hb2 := hb.trans (hb1.mono hb.size)
          clear h1 h2 hb1 hb hne
          go_wp2_with fail
          go_ret
          exact ⟨by rw [HR.out]; rfl, hb2⟩
      · have e : j = N := by omega
        subst e
        have HR : Hid (decide (ss = tt) = true) := decide_eq_true (List.ext_getElem? fun i => by
          by_cases hi : i < j
          · exact HP.out i hi
          · rw [List.getElem?_eq_none (by rw [HN.out]; omega), List.getElem?_eq_none (by rw [HN2.out]; omega)])
        clear hin hin2
        go_wp2_with fail
        go_ret
        exact ⟨by rw [HR.out]; rfl, hb⟩
  · have hne : ((ss.length : Int) != (tt.length : Int)) = true := by simp; omega
    have HR : Hid (decide (ss = tt) = false) := decide_eq_false fun e => hlen (by rw [e])
    rw [HR.out]
    obtain ⟨n1, h1⟩ : ∃ n1, ss.length = n1 := ⟨_, rfl⟩
    obtain ⟨n2, h2⟩ : ∃ n2, tt.length = n2 := ⟨_, rfl⟩
    rw [h1, h2] at hne hlen ⊢
    have hlen' : ¬ (n1 : Int) = (n2 : Int) := by omega
    clear hin hin2 h1 h2 HR
    go_enter Try.func78, Try.ntmps78
    go_wp2_with fail
    go_ret
    exact ⟨rfl, Below.refl _ _⟩
end Go.Proofs.Ytalncebnahlmdaa
/- Contracts over values: the laws' own copy of a value, in cells that were never shared with a text. -/
namespace Go.Proofs.Ytalncebnahlmdaa
open Go.RowKit
attribute [local go_sem] cell_alloc_is frozen_alloc_is
theorem valInfo : (Try.prog.info? 28).map (fun i => (i.zero, i.size, i.bytes)) = some (some (.agg #[.int .i64 0, .int .i64 0, .int .i64 0, .string ⟨#[]⟩, .slice none 0 0, .slice none 0 0]), 6, 88) := by kernel_rfl
/-- the cells of so many new values -/
def newVals (n : Nat) : Array Value := madeCells #[.int .i64 0, .int .i64 0, .int .i64 0, .string ⟨#[]⟩, .slice none 0 0, .slice none 0 0] (n * 6)
theorem make_vals (n : Nat) (hn : n ≤ 1100000) (w : World) : (Instr.makeSlice 25 (.int .i64 (n : Int)) (.int .i64 (n : Int))).run Try.prog w = .ok (.slice (some ⟨w.heap.size, 0, none⟩) n n) (w.alloc (.cells (newVals n) 28)) := by
  obtain ⟨i, hi, hzz⟩ := Option.map_eq_some_iff.1 valInfo
  simp only [Prod.mk.injEq] at hzz
  obtain ⟨hz, hs, hb⟩ := hzz
  have hr := run_make (P := Try.prog) w 25 28 i _ Try.underlying25 hi hz .i64 .i64 n n (by omega) (Int.le_refl _) (by rw [hb]; omega) (by omega)
  simp only [Int.toNat_natCast, hs] at hr
  exact hr
theorem roomV_new (w : World) (n : Nat) : RoomN (w.alloc (.cells (newVals n) 28)) w.heap.size (n * 6) := by
  have h := roomN_new w (newVals n) 28
  rw [show (newVals n).size = n * 6 from size_madeCells _ _] at h
  exact h
/-- a value is written -/
def put6 (w : World) (nb o : Nat) (v0 v1 v2 v3 v4 v5 : Value) : World := (((((w.setCell ⟨nb, o, none⟩ v0).setCell ⟨nb, o + 1, none⟩ v1).setCell ⟨nb, o + 2, none⟩ v2).setCell ⟨nb, o + 3, none⟩ v3).setCell ⟨nb, o + 4, none⟩ v4).setCell ⟨nb, o + 5, none⟩ v5
theorem put6_eq (w : World) (nb o : Nat) (v0 v1 v2 v3 v4 v5 : Value) : put6 w nb o v0 v1 v2 v3 v4 v5 = putN w nb o [v0, v1, v2, v3, v4, v5] := rfl
theorem put6_other {w : World} {nb o b o' : Nat} {v0 v1 v2 v3 v4 v5 : Value} (h : ¬ b = nb ∨ o' < o ∨ o + 6 ≤ o') : (put6 w nb o v0 v1 v2 v3 v4 v5).cell? ⟨b, o', none⟩ = w.cell? ⟨b, o', none⟩ := by
  rw [put6_eq]; exact putN_other h
theorem put6_cell {w : World} {nb o : Nat} {v0 v1 v2 v3 v4 v5 : Value} (h : ∀ q, q < 6 → ∃ u, w.cell? ⟨nb, o + q, none⟩ = some u) {i : Nat} {v : Value} (hi : ([v0, v1, v2, v3, v4, v5] : List Value)[i]? = some v) : (put6 w nb o v0 v1 v2 v3 v4 v5).cell? ⟨nb, o + i, none⟩ = some v := by
  rw [put6_eq]; exact putN_cell h hi
theorem put6_size {w : World} {nb o : Nat} {v0 v1 v2 v3 v4 v5 : Value} : (put6 w nb o v0 v1 v2 v3 v4 v5).heap.size = w.heap.size := by rw [put6_eq]; exact putN_size
theorem put6_below {B nb o : Nat} {a w : World} (h : Below B a w) (hb : B ≤ nb) (v0 v1 v2 v3 v4 v5 : Value) : Below B a (put6 w nb o v0 v1 v2 v3 v4 v5) := by rw [put6_eq]; exact putN_below hb h
theorem Clean.put6 {n : Nat} {w : World} (h : Clean n w) (nb o : Nat) (v0 v1 v2 v3 v4 v5 : Value) : Clean n (put6 w nb o v0 v1 v2 v3 v4 v5) := (((((h.setCell _ _).setCell _ _).setCell _ _).setCell _ _).setCell _ _).setCell _ _
theorem RoomN.put6 {w : World} {nb n : Nat} (h : RoomN w nb n) (b o : Nat) (v0 v1 v2 v3 v4 v5 : Value) : RoomN (put6 w b o v0 v1 v2 v3 v4 v5) nb n := by rw [put6_eq]; exact h.putN
/-- a value's names in another place -/
def Hd.to (h : Hd) (b : Nat) : Hd := ⟨h.k, h.m, h.e, h.t, some ⟨b, 0, none⟩, h.ns.length, h.ns⟩
theorem Hd.to_same (h : Hd) (b : Nat) : (h.to b).same h := ⟨⟨rfl, rfl, rfl, rfl⟩, rfl⟩
/-- a copy of a value, in new memory -/
def CopV (w w' : World) (h : Hd) (F : Vo) (r : Ending) : Prop :=
  ∃ (nb n2 : Nat) (F' : Vo), r = .returned (valV (h.to n2) (some ⟨nb, 0, none⟩) F'.len F'.len) ∧ (w.heap.size ≤ nb ∧ w.heap.size ≤ n2) ∧ F'.alike F ∧ F'.Blk (fun b => w.heap.size ≤ b) ∧ F'.From w' nb 0 ∧ SFrom w' h.ns n2 0 ∧ Clean w.heap.size w'
end Go.Proofs.Ytalncebnahlmdaa
/- Contracts over values: the laws' own copy of a value. -/
namespace Go.Proofs.Ytalncebnahlmdaa
open Go.RowKit
end Go.Proofs.Ytalncebnahlmdaa
/- Contracts over values: the laws' own comparison, of two values that are alike. -/
namespace Go.Proofs.Ytalncebnahlmdaa
open Go.RowKit
attribute [local go_sem] cell_alloc_is frozen_alloc_is
/-- the six cells of a value, open -/
abbrev C6 (w : World) (b o : Nat) (h : Hd) (v : Value) : Prop :=
  w.cell? ⟨b, o, none⟩ = some (.int .i64 h.k) ∧ w.cell? ⟨b, o + 1, none⟩ = some (.int .i64 h.m) ∧ w.cell? ⟨b, o + 2, none⟩ = some (.int .i64 h.e) ∧ w.cell? ⟨b, o + 3, none⟩ = some (.string h.t) ∧ w.cell? ⟨b, o + 4, none⟩ = some v ∧ w.cell? ⟨b, o + 5, none⟩ = some (.slice h.na h.ns.length h.nc)
end Go.Proofs.Ytalncebnahlmdaa
/- Contracts of the leaves of chapter 2: letters, figures, runs, words, NameOk of both sides. -/
namespace Go.Proofs.Ytalncebnahlmdaa
open Go.RowKit

theorem lret_bool {a b : Bool} (h : a = b) : Ending.returned (.bool a) = .returned (.bool b) := by rw [h]
theorem lret_int {k : IntKind} {a b : Int} (h : a = b) : Ending.returned (.int k a) = .returned (.int k b) := by rw [h]

set_option maxHeartbeats 400000 in
theorem isLetter_any (c : Int) (w : World) :
    Calls Try.prog 151 #[.int .u8 c] w fun e w' => e = .returned (.bool (Qm.low c)) ∧ w' = w := by
  go_enter Try.func151, Try.ntmps151
  go_wp2
  all_goals
    go_ret
    exact ⟨lret_bool (by rw [Bool.eq_iff_iff]; simp [Qm.low]; try omega), rfl⟩
set_option maxHeartbeats 400000 in
theorem l2Low_any (c : Int) (w : World) :
    Calls Try.prog 116 #[.int .u8 c] w fun e w' => e = .returned (.bool (Qm.low c)) ∧ w' = w := by
  go_enter Try.func116, Try.ntmps116
  go_wp2
  all_goals
    go_ret
    exact ⟨lret_bool (by rw [Bool.eq_iff_iff]; simp [Qm.low]; try omega), rfl⟩
set_option maxHeartbeats 400000 in
theorem isFigure_any (c : Int) (w : World) :
    Calls Try.prog 155 #[.int .u8 c] w fun e w' => e = .returned (.bool (Qm.fig c)) ∧ w' = w := by
  go_enter Try.func155, Try.ntmps155
  go_wp2
  all_goals
    go_ret
    exact ⟨lret_bool (by rw [Bool.eq_iff_iff]; simp [Qm.fig]; try omega), rfl⟩
set_option maxHeartbeats 400000 in
theorem l2Figure_any (c : Int) (w : World) :
    Calls Try.prog 117 #[.int .u8 c] w fun e w' => e = .returned (.bool (Qm.fig c)) ∧ w' = w := by
  go_enter Try.func117, Try.ntmps117
  go_wp2
  all_goals
    go_ret
    exact ⟨lret_bool (by rw [Bool.eq_iff_iff]; simp [Qm.fig]; try omega), rfl⟩
set_option maxHeartbeats 400000 in
theorem isNamePart_any (c : Int) (w : World) :
    Calls Try.prog 153 #[.int .u8 c] w fun e w' => e = .returned (.bool (Qm.part c)) ∧ w' = w := by
  go_enter Try.func153, Try.ntmps153
  go_wp2_with (first | (go_at_call 151; refine (isLetter_any _ _).mono ?_; rintro e w' ⟨rfl, rfl⟩) | (go_at_call 155; refine (isFigure_any _ _).mono ?_; rintro e w' ⟨rfl, rfl⟩))
  all_goals
    go_ret
    exact ⟨lret_bool (by simp_all [Qm.part]), rfl⟩
set_option maxHeartbeats 400000 in
theorem l1In_l (n a b : Int) (w : World) :
    Calls Try.prog 96 #[.int .i64 n, .int .i64 a, .int .i64 b] w fun e w' => e = .returned (.bool (decide (a ≤ n) && decide (n ≤ b))) ∧ w' = w := by
  go_enter Try.func96, Try.ntmps96
  go_wp2
  all_goals
    go_ret
    exact ⟨lret_bool (by simp; try omega), rfl⟩

/-- how many bytes a text begins with that are name's parts -/
theorem runLength_part (s : ByteArray) (w : World) (hs : s.size ≤ maxLen) :
    Calls Try.prog 152 #[.string s, .func (.func 153) #[] #[]] w fun e w' => e = .returned (.int .i64 (Qm.run Qm.part s.data.toList)) ∧ w' = w := by
  unfold maxLen at hs
  go_enter Try.func152, Try.ntmps152
  go_wp2_with fail
  go_loop [5] (fun i => ∃ k : Nat, k ≤ s.size ∧ i = .int .i64 k ∧ Qm.run Qm.part s.data.toList = k + Qm.run Qm.part (s.data.toList.drop k)) (fun i => s.size - (intOf i).toNat)
  case atStart => exact ⟨0, Nat.zero_le _, rfl, by simp⟩
  case round =>
    obtain ⟨k, hk, rfl, hr⟩ := hrel
    have HR : Hid (Qm.run Qm.part s.data.toList = k + Qm.run Qm.part (s.data.toList.drop k)) := hr
    clear hr
    by_cases hlt : k < s.size
    · have HS : Hid (Qm.run Qm.part (s.data.toList.drop k) = if Qm.part s[k].toNat then 1 + Qm.run Qm.part (s.data.toList.drop (k + 1)) else 0) := Qm.run_step _ s k hlt
      cases hp : Qm.part s[k].toNat
      · go_wp2_with (go_at_call 153; refine (isNamePart_any _ _).mono ?_; rintro e w' ⟨rfl, rfl⟩)
        go_ret
        exact ⟨lret_int (by rw [HR.out, HS.out, hp]; simp), rfl⟩
      · go_wp2_with (go_at_call 153; refine (isNamePart_any _ _).mono ?_; rintro e w' ⟨rfl, rfl⟩)
        go_round
        case rel => exact ⟨k + 1, by omega, by go_num, by rw [HR.out, HS.out, hp]; simp; omega⟩
        case measure => simp [intOf]; omega
    · have HE := Qm.run_end Qm.part s k hlt
      have HE' : Hid (Qm.run Qm.part (s.data.toList.drop k) = 0) := HE
      clear HE
      go_wp2_with fail
      go_ret
      exact ⟨lret_int (by rw [HR.out, HE'.out]; simp), rfl⟩
end Go.Proofs.Ytalncebnahlmdaa
/- Contracts: words, l2Has, l2Letters, NameOk of both sides. -/
namespace Go.Proofs.Ytalncebnahlmdaa
open Go.RowKit

set_option maxHeartbeats 1000000 in
theorem isWord_any (s : ByteArray) (w : World) :
    Calls Try.prog 154 #[.string s] w fun e w' => e = .returned (.bool (Qm.has Qm.words s.toList)) ∧ w' = w := by
  generalize hl : s.toList = l
  cases h : Qm.has Qm.words l
  · simp only [Qm.words, Qm.has, Bool.or_eq_false_iff] at h
    obtain ⟨a1, a2, a3, a4, a5, a6, a7, a8, a9, a10, a11, a12, a13, a14, a15, _⟩ := h
    go_enter Try.func154, Try.ntmps154
    go_wp2_with fail
    go_ret
    exact ⟨rfl, rfl⟩
  · have hm : l ∈ Qm.words := by
      simp only [Qm.words, Qm.has, Bool.or_eq_true, beq_iff_eq] at h
      simp only [Qm.words, List.mem_cons, List.not_mem_nil, or_false]
      rcases h with h | h | h | h | h | h | h | h | h | h | h | h | h | h | h | h
      all_goals first | exact absurd h (by simp) | (subst h; simp)
    clear h
    simp only [Qm.words, List.mem_cons, List.not_mem_nil, or_false] at hm
    rcases hm with h | h | h | h | h | h | h | h | h | h | h | h | h | h | h
    all_goals
      subst h
      go_enter Try.func154, Try.ntmps154
      go_wp2_with fail
      go_ret
      exact ⟨rfl, rfl⟩
end Go.Proofs.Ytalncebnahlmdaa
/- Contracts: l2Words, l2Has. -/
namespace Go.Proofs.Ytalncebnahlmdaa
open Go.RowKit

/-- the words' texts, as they lie in memory -/
def wordTexts : Array Value := #[.string ⟨#[110, 117, 108, 108]⟩, .string ⟨#[116, 114, 117, 101]⟩, .string ⟨#[102, 97, 108, 115, 101]⟩, .string ⟨#[105, 102]⟩, .string ⟨#[116, 104, 101, 110]⟩, .string ⟨#[101, 108, 115, 101]⟩, .string ⟨#[108, 111, 99, 97, 108]⟩, .string ⟨#[102, 117, 110, 99, 116, 105, 111, 110]⟩, .string ⟨#[115, 101, 108, 102]⟩, .string ⟨#[115, 117, 112, 101, 114]⟩, .string ⟨#[101, 114, 114, 111, 114]⟩, .string ⟨#[105, 109, 112, 111, 114, 116]⟩, .string ⟨#[102, 111, 114]⟩, .string ⟨#[105, 110]⟩, .string ⟨#[115, 116, 100]⟩]
set_option maxHeartbeats 400000 in
theorem l2Words_any (w : World) :
    Calls Try.prog 113 #[] w fun e w' => e = .returned (.slice (some ⟨w.heap.size, 0, none⟩) 15 15) ∧ w' = w.alloc (.cells wordTexts 9) := by
  go_enter Try.func113, Try.ntmps113
  go_wp2_with fail
  go_ret
  exact ⟨rfl, rfl⟩

set_option maxHeartbeats 400000 in
theorem l2Has_any (b n : Nat) (S : List ByteArray) (s : ByteArray) (w : World) (hn : S.length = n) (hb : n ≤ 1000)
    (hc : ∀ k (h : k < S.length), w.cell? ⟨b, k, none⟩ = some (.string S[k])) :
    Calls Try.prog 92 #[.slice (some ⟨b, 0, none⟩) n n, .string s] w fun e w' => e = .returned (.bool (Qm.has (S.map ByteArray.toList) s.toList)) ∧ w' = w := by
  subst hn
  go_enter Try.func92, Try.ntmps92
  go_wp2_with fail
  go_loop [5] (fun i => ∃ k : Nat, k ≤ S.length ∧ i = .int .i64 k ∧ Qm.has (S.map ByteArray.toList) s.toList = Qm.has ((S.map ByteArray.toList).drop k) s.toList) (fun i => S.length - (intOf i).toNat)
  case atStart => exact ⟨0, Nat.zero_le _, rfl, by simp⟩
  case round =>
    obtain ⟨k, hk, rfl, hr⟩ := hrel
    have HR : Hid (Qm.has (S.map ByteArray.toList) s.toList = Qm.has ((S.map ByteArray.toList).drop k) s.toList) := hr
    clear hr
    by_cases hlt : k < S.length
    · have HS : Hid (Qm.has ((S.map ByteArray.toList).drop k) s.toList = ((s.toList == (S.map ByteArray.toList)[k]'(by simpa using hlt)) || Qm.has ((S.map ByteArray.toList).drop (k + 1)) s.toList)) := Qm.has_drop _ _ k (by simpa using hlt)
      have hck := hc k hlt
      clear hc
      cases hq : (S[k].toList == s.toList)
      · go_wp2_with fail
        go_round
        case rel => exact ⟨k + 1, by omega, by go_num, by rw [HR.out, HS.out, List.getElem_map, BEq.comm, hq]; simp⟩
        case measure => simp [intOf]; omega
      · go_wp2_with fail
        go_ret
        exact ⟨lret_bool (by rw [HR.out, HS.out, List.getElem_map, BEq.comm, hq]; simp), rfl⟩
    · have HE : Hid (Qm.has ((S.map ByteArray.toList).drop k) s.toList = false) := Qm.has_end _ _ k (by simpa using hlt)
      go_wp2_with fail
      go_ret
      exact ⟨lret_bool (by rw [HR.out, HE.out]), rfl⟩

set_option maxHeartbeats 400000 in
theorem l2Letters_any (s : ByteArray) (w : World) (hs : s.size ≤ maxLen) :
    Calls Try.prog 112 #[.string s] w fun e w' => e = .returned (.bool (Qm.letters 0 s.data.toList && (decide (1 ≤ s.size) && decide (s.size ≤ 12)))) ∧ w' = w := by
  unfold maxLen at hs
  go_enter Try.func112, Try.ntmps112
  go_wp2_with fail
  go_loop [3] (fun i => ∃ k : Nat, k ≤ s.size ∧ i = .int .i64 k ∧ Qm.letters 0 s.data.toList = Qm.letters k (s.data.toList.drop k)) (fun i => s.size - (intOf i).toNat)
  case atStart => exact ⟨0, Nat.zero_le _, rfl, by simp⟩
  case round =>
    obtain ⟨k, hk, rfl, hr⟩ := hrel
    have HR : Hid (Qm.letters 0 s.data.toList = Qm.letters k (s.data.toList.drop k)) := hr
    clear hr
    by_cases hlt : k < s.size
    · have HS : Hid (Qm.letters k (s.data.toList.drop k) = (Qm.okAt k s[k].toNat && Qm.letters (k + 1) (s.data.toList.drop (k + 1)))) := Qm.letters_step s k hlt
      cases h1 : Qm.low s[k].toNat
      · by_cases h0 : k = 0
        · subst h0
          go_wp2_with (first | (go_at_call 116; refine (l2Low_any _ _).mono ?_; rintro e w' ⟨rfl, rfl⟩) | (go_at_call 117; refine (l2Figure_any _ _).mono ?_; rintro e w' ⟨rfl, rfl⟩))
          go_ret
          exact ⟨lret_bool (by rw [HR.out, HS.out]; simp [Qm.okAt, h1]), rfl⟩
        · cases h2 : Qm.fig s[k].toNat
          · go_wp2_with (first | (go_at_call 116; refine (l2Low_any _ _).mono ?_; rintro e w' ⟨rfl, rfl⟩) | (go_at_call 117; refine (l2Figure_any _ _).mono ?_; rintro e w' ⟨rfl, rfl⟩))
            go_ret
            exact ⟨lret_bool (by rw [HR.out, HS.out]; simp [Qm.okAt, h1, h2]), rfl⟩
          · go_wp2_with (first | (go_at_call 116; refine (l2Low_any _ _).mono ?_; rintro e w' ⟨rfl, rfl⟩) | (go_at_call 117; refine (l2Figure_any _ _).mono ?_; rintro e w' ⟨rfl, rfl⟩))
            go_round
            case rel => exact ⟨k + 1, by omega, by go_num, by rw [HR.out, HS.out]; simp [Qm.okAt, h1, h2, h0]⟩
            case measure => simp [intOf]; omega
      · go_wp2_with (first | (go_at_call 116; refine (l2Low_any _ _).mono ?_; rintro e w' ⟨rfl, rfl⟩) | (go_at_call 117; refine (l2Figure_any _ _).mono ?_; rintro e w' ⟨rfl, rfl⟩))
        go_round
        case rel => exact ⟨k + 1, by omega, by go_num, by rw [HR.out, HS.out]; simp [Qm.okAt, h1]⟩
        case measure => simp [intOf]; omega
    · have HE : Hid (Qm.letters k (s.data.toList.drop k) = true) := by unfold Hid; rw [Qm.drop_end s k hlt]; rfl
      go_wp2_with (go_at_call 96; refine (l1In_l _ _ _ _).mono ?_; rintro e w' ⟨rfl, rfl⟩)
      go_ret
      exact ⟨lret_bool (by rw [HR.out, HE.out, Bool.eq_iff_iff]; simp; omega), rfl⟩

/-- the words, as byte arrays -/
def wordArrs : List ByteArray := [⟨#[110, 117, 108, 108]⟩, ⟨#[116, 114, 117, 101]⟩, ⟨#[102, 97, 108, 115, 101]⟩, ⟨#[105, 102]⟩, ⟨#[116, 104, 101, 110]⟩, ⟨#[101, 108, 115, 101]⟩, ⟨#[108, 111, 99, 97, 108]⟩, ⟨#[102, 117, 110, 99, 116, 105, 111, 110]⟩, ⟨#[115, 101, 108, 102]⟩, ⟨#[115, 117, 112, 101, 114]⟩, ⟨#[101, 114, 114, 111, 114]⟩, ⟨#[105, 109, 112, 111, 114, 116]⟩, ⟨#[102, 111, 114]⟩, ⟨#[105, 110]⟩, ⟨#[115, 116, 100]⟩]
theorem wordArrs_lists : wordArrs.map ByteArray.toList = Qm.words := by decide +kernel
theorem wordArrs_cells (w : World) : ∀ k (h : k < wordArrs.length), (w.alloc (.cells wordTexts 9)).cell? ⟨w.heap.size, k, none⟩ = some (.string wordArrs[k]) := by
  intro k h
  have h' : k < 15 := h
  simp only [wordTexts]
  have : k = 0 ∨ k = 1 ∨ k = 2 ∨ k = 3 ∨ k = 4 ∨ k = 5 ∨ k = 6 ∨ k = 7 ∨ k = 8 ∨ k = 9 ∨ k = 10 ∨ k = 11 ∨ k = 12 ∨ k = 13 ∨ k = 14 := by omega
  rcases this with rfl | rfl | rfl | rfl | rfl | rfl | rfl | rfl | rfl | rfl | rfl | rfl | rfl | rfl | rfl
  all_goals simp [wordArrs]

set_option maxHeartbeats 400000 in
theorem sNameOk_any (s : ByteArray) (w : World) (hs : s.size ≤ maxLen) :
    Calls Try.prog 97 #[.string s] w fun e w' => e = .returned (.bool (Qm.name s)) ∧ Below w.heap.size w w' := by
  cases h : (Qm.letters 0 s.data.toList && (decide (1 ≤ s.size) && decide (s.size ≤ 12)))
  · go_enter Try.func97, Try.ntmps97
    go_wp2_with (go_at_call 112; refine (l2Letters_any _ _ hs).mono ?_; rintro e w' ⟨rfl, rfl⟩)
    go_ret
    exact ⟨lret_bool (by unfold Qm.name; rw [h]; rfl), Below.refl _ _⟩
  · have HH := l2Has_any w.heap.size 15 wordArrs s (w.alloc (.cells wordTexts 9)) rfl (by omega) (wordArrs_cells w)
    rw [wordArrs_lists] at HH
    cases hw : Qm.has Qm.words s.toList
    all_goals
      rw [hw] at HH
      go_enter Try.func97, Try.ntmps97
      go_wp2_with (first | (go_at_call 112; refine (l2Letters_any _ _ hs).mono ?_; rintro e w' ⟨rfl, rfl⟩) | (go_at_call 113; refine (l2Words_any _).mono ?_; rintro e w' ⟨rfl, rfl⟩) | (go_at_call 92; refine HH.mono ?_; rintro e w' ⟨rfl, rfl⟩))
      go_ret
      exact ⟨lret_bool (by unfold Qm.name; rw [h, hw]; rfl), (Below.refl _ _).alloc (Nat.le_refl _) _⟩

set_option maxHeartbeats 400000 in
theorem iNameOk_any (s : ByteArray) (w : World) (hs : s.size ≤ maxLen) :
    Calls Try.prog 150 #[.string s] w fun e w' => e = .returned (.bool (Qm.name s)) ∧ w' = w := by
  by_cases h0 : 0 < s.size
  · have hne : (s.toList == []) = false := by rw [beq_eq_false_iff_ne]; intro h; rw [ByteArray.toList_eq] at h; have := Qm.len_eq s; rw [h] at this; simp at this; omega
    by_cases h12 : s.size ≤ 12
    · have HN := Qm.name_eq s h0
      have HN' : Hid (Qm.name s = (decide (s.size ≤ 12) && (Qm.low s[0].toNat && (decide (Qm.run Qm.part s.data.toList = s.size) && !Qm.has Qm.words s.toList)))) := HN
      clear HN
      have hR := Qm.run_le Qm.part s.data.toList
      simp at hR
      cases hl : Qm.low s[0].toNat
      · go_enter Try.func150, Try.ntmps150
        go_wp2_with (go_at_call 151; refine (isLetter_any _ _).mono ?_; rintro e w' ⟨rfl, rfl⟩)
        go_ret
        exact ⟨lret_bool (by rw [HN'.out, hl]; simp), rfl⟩
      · by_cases hr : Qm.run Qm.part s.data.toList = s.size
        · cases hw : Qm.has Qm.words s.toList
          all_goals
            go_enter Try.func150, Try.ntmps150
            go_wp2_with (first | (go_at_call 151; refine (isLetter_any _ _).mono ?_; rintro e w' ⟨rfl, rfl⟩) | (go_at_call 152; refine (runLength_part _ _ hs).mono ?_; rintro e w' ⟨rfl, rfl⟩) | (go_at_call 154; refine (isWord_any _ _).mono ?_; rintro e w' ⟨rfl, rfl⟩))
            go_ret
            exact ⟨lret_bool (by rw [HN'.out, hl, hr, hw]; simp [h12]), rfl⟩
        · have hr' : ((Qm.run Qm.part s.data.toList : Int) == s.size) = false := by simp; omega
          go_enter Try.func150, Try.ntmps150
          go_wp2_with (first | (go_at_call 151; refine (isLetter_any _ _).mono ?_; rintro e w' ⟨rfl, rfl⟩) | (go_at_call 152; refine (runLength_part _ _ hs).mono ?_; rintro e w' ⟨rfl, rfl⟩) | (go_at_call 154; refine (isWord_any _ _).mono ?_; rintro e w' ⟨rfl, rfl⟩))
          go_ret
          exact ⟨lret_bool (by rw [HN'.out, hl]; simp [hr]), rfl⟩
    · have HN : Hid (Qm.name s = false) := Qm.name_long s h12
      go_enter Try.func150, Try.ntmps150
      go_wp2_with fail
      go_ret
      exact ⟨lret_bool (by rw [HN.out]), rfl⟩
  · have HN : Hid (Qm.name s = false) := Qm.name_none s h0
    have hne : (s.toList == []) = true := by rw [beq_iff_eq]; apply List.eq_nil_of_length_eq_zero; rw [ByteArray.toList_eq, Qm.len_eq]; omega
    go_enter Try.func150, Try.ntmps150
    go_wp2_with fail
    go_ret
    exact ⟨lret_bool (by rw [HN.out]), rfl⟩
end Go.Proofs.Ytalncebnahlmdaa
/- A map of texts and numbers, as it is made of a literal and looked into. -/
namespace Go.Proofs.Ytalncebnahlmdaa
open Go.RowKit
/-- the entries of a map, born one after the other -/
def ents : List (ByteArray × Int) → Nat → List MapEntry
  | [], _ => []
  | (s, v) :: t, n => { key := .string s, val := .int .i64 v, born := n } :: ents t (n + 1)
def seek (s : ByteArray) : List (ByteArray × Int) → Nat → Option (Nat × Value)
  | [], _ => none
  | (x, v) :: t, i => if s == x then some (i, .int .i64 v) else seek s t (i + 1)
/-- what stands there, or 0 -/
def seekV (s : ByteArray) : List (ByteArray × Int) → Int
  | [] => 0
  | (x, v) :: t => if s == x then v else seekV s t
theorem findNow_ents (s : ByteArray) : ∀ (L : List (ByteArray × Int)) (n i : Nat), Instr.findNow .string (.string s) (ents L n) i = some (seek s L i) := by
  intro L
  induction L with
  | nil => intro n i; rfl
  | cons p t ih =>
    obtain ⟨x, v⟩ := p
    intro n i
    show (match Instr.sameNow .string (.string s) (.string x) with
      | some true => some (some (i, Value.int .i64 v))
      | some false => Instr.findNow .string (.string s) (ents t (n + 1)) (i + 1)
      | none => none) = some (if s == x then some (i, Value.int .i64 v) else seek s t (i + 1))
    show (match some (s == x) with
      | some true => some (some (i, Value.int .i64 v))
      | some false => Instr.findNow .string (.string s) (ents t (n + 1)) (i + 1)
      | none => none) = some (if s == x then some (i, Value.int .i64 v) else seek s t (i + 1))
    cases h : (s == x)
    · simp [ih]
    · simp
theorem ents_snoc (s : ByteArray) (v : Int) : ∀ (L : List (ByteArray × Int)) (n : Nat), ents (L ++ [(s, v)]) n = ents L n ++ [{ key := .string s, val := .int .i64 v, born := n + L.length }] := by
  intro L
  induction L with
  | nil => intro n; rfl
  | cons p t ih =>
    obtain ⟨x, u⟩ := p
    intro n
    show _ :: ents (t ++ [(s, v)]) (n + 1) = _ :: (ents t (n + 1) ++ _)
    rw [ih (n + 1)]
    simp
    omega
theorem seek_val (s : ByteArray) : ∀ (L : List (ByteArray × Int)) (i : Nat), (match seek s L i with | some (_, v) => v | none => Value.int .i64 0) = Value.int .i64 (seekV s L) := by
  intro L
  induction L with
  | nil => intro i; rfl
  | cons p t ih =>
    obtain ⟨x, v⟩ := p
    intro i
    unfold seek seekV
    cases h : (s == x)
    · simpa using ih (i + 1)
    · simp
/-- block b is that map -/
def IsMap (w : World) (b : Nat) (L : List (ByteArray × Int)) : Prop := w.heap[b]? = some (.map (ents L 0).toArray L.length)
theorem IsMap.grown {w w' : World} {b : Nat} {L : List (ByteArray × Int)} (h : IsMap w b L) (hb : Below w.heap.size w w') : IsMap w' b L := by
  have hlt := (Array.getElem?_eq_some_iff.1 h).1
  exact (hb.block b hlt).trans h
theorem run_insert_new {P : Program} {w : World} {mty kt et : TypeId} {b : Nat} {L : List (ByteArray × Int)} {s : ByteArray} {v : Int} (hm : P.underlying mty = some (.map kt et)) (hk : P.underlying kt = some .string)
    (hb : IsMap w b L) (hf : seek s L 0 = none) :
    (Instr.mapUpdate mty (.map (some b)) (.string s) (.int .i64 v)).run P w = .ok () { w with heap := w.heap.setIfInBounds b (.map (ents (L ++ [(s, v)]) 0).toArray (L ++ [(s, v)]).length) } := by
  have hff : Instr.findNow .string (.string s) (ents L 0).toArray.toList 0 = some none := by rw [List.toList_toArray, findNow_ents, hf]
  have hc : (Instr.checkKey false 10000 kt (.string s)).run P w = .ok () w := MapKept.run_checkKey (k := .string s) hk (by simp [MapKept.IsKey]) false 9999
  have e : (ents (L ++ [(s, v)]) 0).toArray = (ents L 0).toArray.push { key := .string s, val := .int .i64 v, born := L.length } := by rw [ents_snoc]; simp
  rw [e]
  simp [Instr.mapUpdate, run_underlying hm, MapKept.run_getObj_map hb, hc, MapKept.run_findKey hk hff, MapKept.run_setObj_map _ hb, Result.andThen]
theorem run_look {P : Program} {w : World} {mty kt et : TypeId} {b : Nat} {L : List (ByteArray × Int)} {s : ByteArray} (hm : P.underlying mty = some (.map kt et)) (hk : P.underlying kt = some .string)
    (hz : (zeroValue et).run P w = .ok (.int .i64 0) w) (hb : IsMap w b L) :
    (Instr.lookup mty (.map (some b)) (.string s) false).run P w = .ok (.int .i64 (seekV s L)) w := by
  have hff : Instr.findNow .string (.string s) (ents L 0) 0 = some (seek s L 0) := findNow_ents s L 0 0
  have hc : ∀ em, (Instr.checkKey em 10000 kt (.string s)).run P w = .ok () w := fun em => MapKept.run_checkKey (k := .string s) hk (by simp [MapKept.IsKey]) em 9999
  have hv := seek_val s L 0
  cases h : seek s L 0 with
  | none => rw [h] at hv hff; rw [← hv]; simp [Instr.lookup, run_underlying hm, MapKept.run_getObj_map hb, hc, MapKept.run_findKey hk hff, hz]
  | some p => obtain ⟨i, v⟩ := p; rw [h] at hv hff; rw [← hv]; simp [Instr.lookup, run_underlying hm, MapKept.run_getObj_map hb, hc, MapKept.run_findKey hk hff]
/-- an entry of a map's literal is put in -/
theorem wpList_insert {P : Program} (w : World) {ops : Array Oper} {rest : List Oper} {o : Oper} {a : Act} {Q : Exit → Act → World → Prop}
    (hg : o.guard = none) (m x v : Operand) (t : TypeId) (hop : o.op = Op.insert t m x v) (k e : TypeId) (ht : P.underlying t = some (.map k e)) (hk : P.underlying k = some .string) (b : Nat) (L : List (ByteArray × Int))
    (hm : a.eval m = .map (some b)) (hb : IsMap w b L) (s : ByteArray) (z : Int) (hx : a.eval x = .string s) (hv : a.eval v = .int .i64 z) (hf : seek s L 0 = none)
    (hK : ∀ w', IsMap w' b (L ++ [(s, z)]) → w.grownBy w' (some b) → wpList P ops Q rest (a.put o.dst undef) w') :
    wpList P ops Q (o :: rest) a w := by
  refine wpList_plain hg fun K' hK' => ?_
  have hrun := run_insert_new (v := z) ht hk hb hf
  have hlt := (Array.getElem?_eq_some_iff.1 hb).1
  unfold Oper.wp
  simp [execOp, hop, hm, hx, hv, hrun, Result.andThen]
  refine hK' _ _ (hK _ ?_ ⟨rfl, rfl, rfl, by simp, fun i _ hi => ?_⟩)
  · unfold IsMap
    simp [hlt]
  · have hne : b ≠ i := fun e => hi (by rw [e])
    simp [hne]
theorem beq_list (s : ByteArray) (l : List UInt8) : (s == ⟨l.toArray⟩) = (s.toList == l) := by
  rw [Bool.eq_iff_iff, MapKept.bytes_beq, beq_iff_eq, ByteArray.toList_eq]
  constructor
  · intro h; subst h; simp
  · intro h; subst h; cases s; simp
end Go.Proofs.Ytalncebnahlmdaa
/- Maps whose keys are places of lists: when two keys are the same. -/
namespace Go.Proofs.Ytalncebnahlmdaa
open Go.RowKit
/-- where a list lies: nowhere, if it is empty -/
abbrev Pl := Option Addr × Nat
def plV (p : Pl) : Value := .agg #[.pointer p.1, .int .i64 p.2]
/-- it lies in cells that are not frozen -/
def PlOk (w : World) (p : Pl) : Prop := p.1 = none ∨ ∃ a cs t, p.1 = some a ∧ w.heap[a.block]? = some (.cells cs t (0, 0))
/-- where two lists lie -/
abbrev Pl2 := Pl × Pl
def pl2V (p : Pl2) : Value := .agg #[.pointer p.1.1, .int .i64 p.1.2, .pointer p.2.1, .int .i64 p.2.2]
/-- a map of keys that can be held against each other -/
structure Keys (K : Type) [DecidableEq K] (P : Program) (kt : TypeId) where
  kv : K → Value
  ok : World → K → Prop
  wide : (match P.underlying kt with | some (.array _ _) | some (.struct _) => true | _ => false) = true
  eq : ∀ w x y, ok w x → ok w y → (Op.equal kt (kv x) (kv y)).run P w = .ok (decide (x = y)) w
  check : ∀ w em x, (Instr.checkKey em 10000 kt (kv x)).run P w = .ok () w
  bits : ∀ x, Instr.sameBits 10000 (kv x) (kv x) = true
section
variable {K : Type} [DecidableEq K] {P : Program} {kt : TypeId} (Q : Keys K P kt)
/-- block b is the map of these keys and values -/
def Keys.Is (w : World) (b : Nat) (L : List (K × Value)) : Prop := ∃ es clock, w.heap[b]? = some (.map es clock) ∧ es.toList.map (fun e => (e.key, e.val)) = L.map (fun p => (Q.kv p.1, p.2))
def seekL (x : K) : List (K × Value) → Nat → Option (Nat × Value)
  | [], _ => none
  | (k, v) :: t, i => if x = k then some (i, v) else seekL x t (i + 1)
def getL (x : K) : List (K × Value) → Option Value
  | [] => none
  | (k, v) :: t => if x = k then some v else getL x t
def putL (x : K) (v : Value) : List (K × Value) → List (K × Value)
  | [] => [(x, v)]
  | (k, u) :: t => if x = k then (x, v) :: t else (k, u) :: putL x v t
theorem seekL_get (x : K) : ∀ (L : List (K × Value)) (i : Nat), (seekL x L i).map Prod.snd = getL x L := by
  intro L
  induction L with
  | nil => intro i; rfl
  | cons p t ih =>
    obtain ⟨k, v⟩ := p
    intro i
    unfold seekL getL
    split
    · rfl
    · exact ih (i + 1)
theorem getL_put (x y : K) (v : Value) : ∀ (L : List (K × Value)), getL y (putL x v L) = if y = x then some v else getL y L := by
  intro L
  induction L with
  | nil => unfold putL getL; split <;> simp_all [getL]
  | cons p t ih =>
    obtain ⟨k, u⟩ := p
    unfold putL
    by_cases h : x = k
    · subst h
      rw [if_pos rfl]
      show (if y = x then some v else getL y t) = if y = x then some v else (if y = x then some u else getL y t)
      by_cases h2 : y = x <;> simp [h2]
    · rw [if_neg h]
      show (if y = k then some u else getL y (putL x v t)) = if y = x then some v else (if y = k then some u else getL y t)
      rw [ih]
      by_cases h2 : y = k
      · subst h2; rw [if_pos rfl, if_neg (fun e => h e.symm), if_pos rfl]
      · rw [if_neg h2, if_neg h2]
theorem putL_keys (x : K) (v : Value) : ∀ (L : List (K × Value)) (p : K × Value), p ∈ putL x v L → p.1 = x ∨ p ∈ L := by
  intro L
  induction L with
  | nil => intro p h; simp [putL] at h; subst h; exact .inl rfl
  | cons q t ih =>
    obtain ⟨k, u⟩ := q
    intro p h
    unfold putL at h
    split at h
    · rcases List.mem_cons.1 h with h | h
      · subst h; exact .inl rfl
      · exact .inr (List.mem_cons_of_mem _ h)
    · rcases List.mem_cons.1 h with h | h
      · subst h; exact .inr (List.mem_cons_self)
      · rcases ih p h with h | h
        · exact .inl h
        · exact .inr (List.mem_cons_of_mem _ h)
theorem Keys.asking (w : World) (x : K) (hx : Q.ok w x) : ∀ (L : List (K × Value)) (es : List MapEntry) (i : Nat), (∀ p ∈ L, Q.ok w p.1) → es.map (fun e => (e.key, e.val)) = L.map (fun p => (Q.kv p.1, p.2)) → (Instr.findAsking kt (Q.kv x) es i).run P w = .ok (seekL x L i) w := by
  intro L
  induction L with
  | nil =>
    intro es i _ h
    have : es = [] := by cases es with | nil => rfl | cons e es => simp at h
    subst this
    simp [Instr.findAsking, seekL]
  | cons p t ih =>
    obtain ⟨k, v⟩ := p
    intro es i hok h
    cases es with
    | nil => simp at h
    | cons e es =>
      simp only [List.map_cons, List.cons.injEq, Prod.mk.injEq] at h
      obtain ⟨⟨h1, h2⟩, h3⟩ := h
      have he := Q.eq w x k hx (hok (k, v) List.mem_cons_self)
      rw [← h1] at he
      have hi := ih es (i + 1) (fun p hp => hok p (List.mem_cons_of_mem _ hp)) h3
      by_cases hk : x = k
      · subst hk
        rw [decide_eq_true rfl] at he
        simp [Instr.findAsking, he, seekL, h2]
      · have hd : decide (x = k) = false := decide_eq_false hk
        rw [hd] at he
        simp [Instr.findAsking, he, seekL, hk, hi]
theorem Keys.find (w : World) (x : K) (hx : Q.ok w x) (L : List (K × Value)) (es : List MapEntry) (hok : ∀ p ∈ L, Q.ok w p.1) (h : es.map (fun e => (e.key, e.val)) = L.map (fun p => (Q.kv p.1, p.2))) :
    (Instr.findKey kt (Q.kv x) es).run P w = .ok (seekL x L 0) w := by
  rw [run_findKey_eq w Q.wide]
  exact Q.asking w x hx L es 0 hok h
theorem Keys.look {mty et : TypeId} (hm : P.underlying mty = some (.map kt et)) {w : World} {b : Nat} {L : List (K × Value)} (x : K) (hx : Q.ok w x) (hok : ∀ p ∈ L, Q.ok w p.1) (hb : Q.Is w b L) {z : Value} (hz : (zeroValue et).run P w = .ok z w) :
    (Instr.lookup mty (.map (some b)) (Q.kv x) false).run P w = .ok ((getL x L).getD z) w := by
  obtain ⟨es, clock, hh, he⟩ := hb
  have hf := Q.find w x hx L es.toList hok he
  have hg := seekL_get x L 0
  cases h : seekL x L 0 with
  | none => rw [h] at hf hg; rw [← hg]; simp [Instr.lookup, run_underlying hm, MapKept.run_getObj_map hh, Q.check, hf, hz]
  | some p => obtain ⟨i, v⟩ := p; rw [h] at hf hg; rw [← hg]; simp [Instr.lookup, run_underlying hm, MapKept.run_getObj_map hh, Q.check, hf]
theorem Keys.look2 {mty et : TypeId} (hm : P.underlying mty = some (.map kt et)) {w : World} {b : Nat} {L : List (K × Value)} (x : K) (hx : Q.ok w x) (hok : ∀ p ∈ L, Q.ok w p.1) (hb : Q.Is w b L) {z : Value} (hz : (zeroValue et).run P w = .ok z w) :
    (Instr.lookup mty (.map (some b)) (Q.kv x) true).run P w = .ok (.tuple #[(getL x L).getD z, .bool (getL x L).isSome]) w := by
  obtain ⟨es, clock, hh, he⟩ := hb
  have hf := Q.find w x hx L es.toList hok he
  have hg := seekL_get x L 0
  cases h : seekL x L 0 with
  | none => rw [h] at hf hg; rw [← hg]; simp [Instr.lookup, run_underlying hm, MapKept.run_getObj_map hh, Q.check, hf, hz]
  | some p => obtain ⟨i, v⟩ := p; rw [h] at hf hg; rw [← hg]; simp [Instr.lookup, run_underlying hm, MapKept.run_getObj_map hh, Q.check, hf]
theorem seekL_some {x : K} : ∀ {L : List (K × Value)} {i j : Nat} {v : Value}, seekL x L i = some (j, v) → ∃ n u, j = i + n ∧ L[n]? = some (x, u) ∧ ∀ w, putL x w L = L.set n (x, w) := by
  intro L
  induction L with
  | nil => intro i j v h; cases h
  | cons p t ih =>
    obtain ⟨k, u⟩ := p
    intro i j v h
    unfold seekL at h
    by_cases hk : x = k
    · rw [if_pos hk] at h
      cases h
      subst hk
      exact ⟨0, _, rfl, rfl, fun w => by unfold putL; rw [if_pos rfl]; rfl⟩
    · rw [if_neg hk] at h
      obtain ⟨n, u', e1, e2, e3⟩ := ih h
      exact ⟨n + 1, u', by omega, by simpa using e2, fun w => by unfold putL; rw [if_neg hk, e3 w]; rfl⟩
theorem seekL_none {x : K} : ∀ {L : List (K × Value)} {i : Nat}, seekL x L i = none → ∀ w, putL x w L = L ++ [(x, w)] := by
  intro L
  induction L with
  | nil => intro i _ w; rfl
  | cons p t ih =>
    obtain ⟨k, u⟩ := p
    intro i h w
    unfold seekL at h
    by_cases hk : x = k
    · rw [if_pos hk] at h; cases h
    · rw [if_neg hk] at h
      unfold putL
      rw [if_neg hk, ih h w]; rfl
theorem Keys.put {mty et : TypeId} (hm : P.underlying mty = some (.map kt et)) {w : World} {b : Nat} {L : List (K × Value)} (x : K) (v : Value) (hx : Q.ok w x) (hok : ∀ p ∈ L, Q.ok w p.1) (hb : Q.Is w b L) :
    ∃ w', (Instr.mapUpdate mty (.map (some b)) (Q.kv x) v).run P w = .ok () w' ∧ Q.Is w' b (putL x v L) ∧ w.grownBy w' (some b) ∧ w'.heap.size = w.heap.size := by
  obtain ⟨es, clock, hh, he⟩ := hb
  have hf := Q.find w x hx L es.toList hok he
  have hlt := (Array.getElem?_eq_some_iff.1 hh).1
  cases h : seekL x L 0 with
  | none =>
    rw [h] at hf
    refine ⟨_, by simp [Instr.mapUpdate, run_underlying hm, MapKept.run_getObj_map hh, Q.check, hf, MapKept.run_setObj_map _ hh, Result.andThen]; rfl, ?_, ?_, by simp⟩
    · refine ⟨_, _, (MapKept.heap_set hh).1, ?_⟩
      rw [seekL_none h, Array.toList_push, List.map_append, he, List.map_append]
      rfl
    · exact ⟨rfl, rfl, rfl, by simp, fun i _ hi => (MapKept.heap_set hh).2 i (fun e => hi (by rw [e]))⟩
  | some p =>
    obtain ⟨j, u⟩ := p
    rw [h] at hf
    obtain ⟨n, u', e1, e2, e3⟩ := seekL_some h
    rw [Nat.zero_add] at e1
    subst e1
    have hkey : (es[j]?).map (·.key) = some (Q.kv x) := by
      have h1 : (es.toList.map (fun e => (e.key, e.val)))[j]? = some (Q.kv x, u') := by rw [he, List.getElem?_map, e2]; rfl
      rw [List.getElem?_map, Array.getElem?_toList] at h1
      cases hj : es[j]? with
      | none => rw [hj] at h1; cases h1
      | some e => rw [hj] at h1; simp only [Option.map_some, Option.some.injEq, Prod.mk.injEq] at h1; simp [h1.1]
    have hks : (Instr.keyThatStays (((es[j]?).map (·.key)).getD (Q.kv x)) (Q.kv x)).run P w = .ok (Q.kv x) w := by
      rw [hkey]
      simp [Instr.keyThatStays, Q.bits]
    refine ⟨_, by simp [Instr.mapUpdate, run_underlying hm, MapKept.run_getObj_map hh, Q.check, hf, hks, MapKept.run_setObj_map _ hh, Result.andThen]; rfl, ?_, ?_, by simp⟩
    · refine ⟨_, _, (MapKept.heap_set hh).1, ?_⟩
      rw [e3 v]
      apply List.ext_getElem?
      intro i
      have hi : (es.toList.map (fun e => (e.key, e.val)))[i]? = (L.map (fun p => (Q.kv p.1, p.2)))[i]? := by rw [he]
      rw [List.getElem?_map, List.getElem?_map, Array.getElem?_toList] at hi
      rw [List.getElem?_map, List.getElem?_map, Array.getElem?_toList, Array.getElem?_modify, List.getElem?_set]
      by_cases hij : j = i
      · subst hij
        have hl : j < L.length := (List.getElem?_eq_some_iff.1 e2).1
        rw [if_pos rfl, if_pos rfl, if_pos hl]
        cases hj : es[j]? with
        | none => rw [hj] at hkey; cases hkey
        | some e => rfl
      · rw [if_neg hij, if_neg hij]; exact hi
    · exact ⟨rfl, rfl, rfl, by simp, fun i _ hi => (MapKept.heap_set hh).2 i (fun e => hi (by rw [e]))⟩
theorem Keys.Is.grown {w w' : World} {b : Nat} {L : List (K × Value)} (h : Q.Is w b L) (hb : w'.heap[b]? = w.heap[b]?) : Q.Is w' b L := by
  obtain ⟨es, clock, hh, he⟩ := h
  exact ⟨es, clock, hb.trans hh, he⟩
end
theorem bits_ptr (n : Nat) (x : Option Addr) : Instr.sameBits n (.pointer x) (.pointer x) = true := by cases n <;> simp [Instr.sameBits]
theorem bits_int (n : Nat) (k : IntKind) (x : Int) : Instr.sameBits n (.int k x) (.int k x) = true := by cases n <;> simp [Instr.sameBits]
theorem bits_place (n : Nat) (x : Pl) : Instr.sameBits (n + 1) (plV x) (plV x) = true := by simp [plV, Instr.sameBits, bits_ptr, bits_int]
theorem bits_place2 (n : Nat) (x : Pl2) : Instr.sameBits (n + 1) (pl2V x) (pl2V x) = true := by simp [pl2V, Instr.sameBits, bits_ptr, bits_int]
end Go.Proofs.Ytalncebnahlmdaa
/- Two trees that are the same, by the program: places of lists, heads, pairs. -/
namespace Go.Proofs.Ytalncebnahlmdaa
open Go.RowKit
/-- what lies at one place with one length is one list -/
theorem Fo.from_inj {w : World} : ∀ (F G : Fo) (b o : Nat), F.From w b o → G.From w b o → F.len = G.len → F = G := by
  intro F
  induction F with
  | nil =>
    intro G b o _ _ h
    cases G with
    | nil => rfl
    | cons => exact absurd h.symm (Nat.succ_ne_zero _)
  | cons k t m e a c kids next ih1 ih2 =>
    intro G b o h1 h2 h
    cases G with
    | nil => exact absurd h (Nat.succ_ne_zero _)
    | cons k' t' m' e' a' c' kids' next' =>
      obtain ⟨⟨x0, x1, x2, x3, x4⟩, hk, _, _, _, hn⟩ := h1
      obtain ⟨⟨y0, y1, y2, y3, y4⟩, hk', _, _, _, hn'⟩ := h2
      rw [x0] at y0; rw [x1] at y1; rw [x2] at y2; rw [x3] at y3; rw [x4] at y4
      simp only [Option.some.injEq, Value.int.injEq, Value.string.injEq, Value.slice.injEq, true_and] at y0 y1 y2 y3 y4
      obtain ⟨ha, hl, hc⟩ := y4
      subst y0 y1 y2 y3 ha hc
      have hkk : kids = kids' := by
        rcases hk with hk | ⟨b', o', e1, hF⟩
        · subst hk
          cases kids' with
          | nil => rfl
          | cons => exact absurd hl.symm (Nat.succ_ne_zero _)
        · rcases hk' with hk' | ⟨b2, o2, e2, hG⟩
          · subst hk'
            cases kids with
            | nil => rfl
            | cons => exact absurd hl (Nat.succ_ne_zero _)
          · rw [e1] at e2
            cases e2
            exact ih1 _ _ _ hF hG hl
      subst hkk
      rw [ih2 next' b (o + 5) hn hn' (Nat.succ.inj h)]
/-- where a list lies -/
def plOf (a : Option Addr) (n : Nat) : Pl := if n = 0 then (none, 0) else (a, n)
/-- heads that are the same -/
def headSame (k : Int) (t : ByteArray) (m e : Int) (n : Nat) (k' : Int) (t' : ByteArray) (m' e' : Int) (n' : Nat) : Bool := decide (k = k') && (decide (t.toList = t'.toList) && ((decide (m = m') && decide (e = e')) && decide (n = n')))
theorem Fo.from_of_len' {F : Fo} {w : World} {a : Option Addr} (hin : F.In w a) {i : Nat} (hi : i < F.len) : ∃ b o, a = some ⟨b, o, none⟩ ∧ F.From w b o := by
  rcases hin with rfl | h
  · exact absurd hi (Nat.not_lt_zero _)
  · exact h
/-- the cells of the tree at a place -/
def Fo.cellsAt (F : Fo) (i : Nat) : List Value := [.int .i64 (F.kindAt i), .string (F.textAt i), .int .i64 (F.manAt i), .int .i64 (F.expAt i), .slice (F.addrAt i) (F.kidsAt i).len (F.capAt i)]
/-- the cells of the first n pairs -/
def pairCells (F G : Fo) : Nat → List Value
  | 0 => []
  | n + 1 => pairCells F G n ++ (F.cellsAt n ++ G.cellsAt n)
theorem pairCells_length (F G : Fo) (n : Nat) : (pairCells F G n).length = n * 10 := by
  induction n with
  | zero => rfl
  | succ n ih => show (pairCells F G n ++ (F.cellsAt n ++ G.cellsAt n)).length = _; rw [List.length_append, ih]; show _ + 10 = _; omega
/-- two trees in memory, and nothing old changed -/
abbrev HeldV (W0 : World) (b o b2 o2 : Nat) (F G : Fo) (j : Nat) (w : World) : Prop :=
  (w.cell? ⟨b, o + j * 5, none⟩ = some (.int .i64 (F.kindAt j)) ∧ w.cell? ⟨b, o + j * 5 + 1, none⟩ = some (.string (F.textAt j)) ∧ w.cell? ⟨b, o + j * 5 + 2, none⟩ = some (.int .i64 (F.manAt j)) ∧ w.cell? ⟨b, o + j * 5 + 3, none⟩ = some (.int .i64 (F.expAt j)) ∧ w.cell? ⟨b, o + j * 5 + 4, none⟩ = some (.slice (F.addrAt j) (F.kidsAt j).len (F.capAt j))) ∧
  (w.cell? ⟨b2, o2 + j * 5, none⟩ = some (.int .i64 (G.kindAt j)) ∧ w.cell? ⟨b2, o2 + j * 5 + 1, none⟩ = some (.string (G.textAt j)) ∧ w.cell? ⟨b2, o2 + j * 5 + 2, none⟩ = some (.int .i64 (G.manAt j)) ∧ w.cell? ⟨b2, o2 + j * 5 + 3, none⟩ = some (.int .i64 (G.expAt j)) ∧ w.cell? ⟨b2, o2 + j * 5 + 4, none⟩ = some (.slice (G.addrAt j) (G.kidsAt j).len (G.capAt j))) ∧
  Below W0.heap.size W0 w
end Go.Proofs.Ytalncebnahlmdaa
/- Two trees that are the same: what the program's loop keeps, as plain mathematics. -/
namespace Go.Proofs.Ytalncebnahlmdaa
/-- a tree as it stands in a list: its head, where its list lies, that list -/
structure It where
  k : Int
  t : ByteArray
  m : Int
  e : Int
  a : Option Addr
  F : Fo
  c : Nat
def It.cells (x : It) : List Value := [.int .i64 x.k, .string x.t, .int .i64 x.m, .int .i64 x.e, .slice x.a x.F.len x.c]
def Fo.itAt (F : Fo) (i : Nat) : It := ⟨F.kindAt i, F.textAt i, F.manAt i, F.expAt i, F.addrAt i, F.kidsAt i, F.capAt i⟩
abbrev It2 := It × It
def hsame (p : It2) : Bool := headSame p.1.k p.1.t p.1.m p.1.e p.1.F.len p.2.k p.2.t p.2.m p.2.e p.2.F.len
/-- two trees are the same but for where they lie -/
def same2 (p : It2) : Prop := (p.1.k = p.2.k ∧ p.1.t = p.2.t ∧ p.1.m = p.2.m ∧ p.1.e = p.2.e) ∧ p.1.F.alike p.2.F
theorem bytes_ext {a b : ByteArray} (h : a.toList = b.toList) : a = b := by
  rw [ByteArray.toList_eq, ByteArray.toList_eq] at h
  cases a; cases b; simpa using h
theorem hsame_iff (p : It2) : hsame p = true ↔ (p.1.k = p.2.k ∧ p.1.t = p.2.t ∧ p.1.m = p.2.m ∧ p.1.e = p.2.e) ∧ p.1.F.len = p.2.F.len := by
  unfold hsame headSame
  simp only [Bool.and_eq_true, decide_eq_true_eq]
  constructor
  · rintro ⟨h1, h2, ⟨h3, h4⟩, h5⟩; exact ⟨⟨h1, bytes_ext h2, h3, h4⟩, h5⟩
  · rintro ⟨⟨h1, h2, h3, h4⟩, h5⟩; exact ⟨h1, by rw [h2], ⟨h3, h4⟩, h5⟩
theorem same2_head {p : It2} (h : same2 p) : hsame p = true := (hsame_iff p).2 ⟨h.1, Fo.alike_len h.2⟩
theorem alike_kids : ∀ {G F : Fo}, F.alike G → ∀ i, i < F.len → same2 (F.itAt i, G.itAt i) := by
  intro G
  induction G with
  | nil => intro F h i hi; rw [Fo.alike_nil h] at hi; exact absurd hi (Nat.not_lt_zero _)
  | cons k t m e a c kids next _ ih =>
    intro F h i hi
    obtain ⟨a', c', kids', next', rfl, h1, h2⟩ := Fo.alike_cons h
    cases i with
    | zero => exact ⟨⟨rfl, rfl, rfl, rfl⟩, h1⟩
    | succ i => exact ih h2 i (Nat.lt_of_succ_lt_succ hi)
theorem alike_of_kids : ∀ {F G : Fo}, F.len = G.len → (∀ i, i < F.len → same2 (F.itAt i, G.itAt i)) → F.alike G := by
  intro F
  induction F with
  | nil => intro G h _; cases G with
    | nil => trivial
    | cons => exact absurd h.symm (Nat.succ_ne_zero _)
  | cons k t m e a c kids next _ ih =>
    intro G h hk
    cases G with
    | nil => exact absurd h (Nat.succ_ne_zero _)
    | cons k' t' m' e' a' c' kids' next' =>
      obtain ⟨h1, h2⟩ := hk 0 (Nat.succ_pos _)
      exact ⟨h1, h2, ih (Nat.succ.inj h) fun i hi => hk (i + 1) (Nat.succ_lt_succ hi)⟩
/-- what is closed is the same all through -/
theorem closed_same (X : It2 → Prop) (h : ∀ p, X p → hsame p = true ∧ ∀ i, i < p.1.F.len → X (p.1.F.itAt i, p.2.F.itAt i)) (N : Nat) : ∀ p, p.1.F.size < N → X p → same2 p := by
  induction N with
  | zero => intro p hp; omega
  | succ N ih =>
    intro p hp hX
    obtain ⟨h1, h2⟩ := h p hX
    obtain ⟨h3, h4⟩ := (hsame_iff p).1 h1
    exact ⟨h3, alike_of_kids h4 fun i hi => ih _ (by have := Fo.size_at hi; show (p.1.F.kidsAt i).size < N; omega) (h2 i hi)⟩
/-- where a tree's list lies -/
def It.pl (x : It) : Pl := plOf x.a x.F.len
theorem pl_inj {w : World} {x y : It} (hx : x.F.In w x.a) (hy : y.F.In w y.a) (h : x.pl = y.pl) : x.F = y.F := by
  unfold It.pl plOf at h
  by_cases h1 : x.F.len = 0
  · rw [if_pos h1] at h
    by_cases h2 : y.F.len = 0
    · have e1 : x.F = .nil := by cases hF : x.F with
        | nil => rfl
        | cons => rw [hF] at h1; exact absurd h1 (Nat.succ_ne_zero _)
      have e2 : y.F = .nil := by cases hF : y.F with
        | nil => rfl
        | cons => rw [hF] at h2; exact absurd h2 (Nat.succ_ne_zero _)
      rw [e1, e2]
    · rw [if_neg h2] at h
      exact absurd (congrArg Prod.snd h).symm h2
  · rw [if_neg h1] at h
    by_cases h2 : y.F.len = 0
    · rw [if_pos h2] at h
      exact absurd (congrArg Prod.snd h) h1
    · rw [if_neg h2] at h
      have ha : x.a = y.a := congrArg Prod.fst h
      have hl : x.F.len = y.F.len := congrArg Prod.snd h
      obtain ⟨b, o, e1, f1⟩ := Fo.from_of_len' hx (show 0 < x.F.len by omega)
      obtain ⟨b', o', e2, f2⟩ := Fo.from_of_len' hy (show 0 < y.F.len by omega)
      rw [ha, e2] at e1
      cases e1
      exact Fo.from_inj _ _ _ _ f1 f2 hl
/-- the pairs of two lists -/
def kidPairs (F G : Fo) : Nat → List It2
  | 0 => []
  | n + 1 => kidPairs F G n ++ [(F.itAt n, G.itAt n)]
theorem kidPairs_mem {F G : Fo} {n : Nat} {p : It2} : p ∈ kidPairs F G n ↔ ∃ i, i < n ∧ p = (F.itAt i, G.itAt i) := by
  induction n with
  | zero =>
    constructor
    · intro h; exact absurd h (List.not_mem_nil)
    · rintro ⟨i, h, _⟩; exact absurd h (Nat.not_lt_zero _)
  | succ n ih =>
    show p ∈ kidPairs F G n ++ [(F.itAt n, G.itAt n)] ↔ _
    rw [List.mem_append, ih, List.mem_singleton]
    constructor
    · rintro (⟨i, hi, h⟩ | h)
      · exact ⟨i, by omega, h⟩
      · exact ⟨n, by omega, h⟩
    · rintro ⟨i, hi, h⟩
      rcases Nat.lt_succ_iff_lt_or_eq.1 hi with hi | rfl
      · exact .inl ⟨i, hi, h⟩
      · exact .inr h
def pcells (p : It2) : List Value := p.1.cells ++ p.2.cells
theorem kidPairs_cells (F G : Fo) (n : Nat) : (kidPairs F G n).flatMap pcells = pairCells F G n := by
  induction n with
  | zero => rfl
  | succ n ih => show (kidPairs F G n ++ [(F.itAt n, G.itAt n)]).flatMap pcells = pairCells F G n ++ (F.cellsAt n ++ G.cellsAt n); rw [List.flatMap_append, ih]; simp [pcells, It.cells, Fo.itAt, Fo.cellsAt]
theorem kidPairs_length (F G : Fo) (n : Nat) : (kidPairs F G n).length = n := by
  induction n with
  | zero => rfl
  | succ n ih => show (kidPairs F G n ++ [(F.itAt n, G.itAt n)]).length = n + 1; rw [List.length_append, ih]; rfl
/-- how much is to be done -/
def wsum : List It2 → Nat
  | [] => 0
  | p :: t => p.1.F.size + 1 + wsum t
theorem wsum_append (A B : List It2) : wsum (A ++ B) = wsum A + wsum B := by
  induction A with
  | nil => show wsum B = 0 + wsum B; omega
  | cons p t ih => show p.1.F.size + 1 + wsum (t ++ B) = p.1.F.size + 1 + wsum t + wsum B; omega
theorem wsum_length (A : List It2) : A.length ≤ wsum A := by
  induction A with
  | nil => exact Nat.le_refl _
  | cons p t ih => show t.length + 1 ≤ p.1.F.size + 1 + wsum t; omega
def Fo.upTo (F : Fo) : Nat → Nat
  | 0 => 0
  | n + 1 => F.upTo n + ((F.kidsAt n).size + 1)
theorem wsum_kids (F G : Fo) (n : Nat) : wsum (kidPairs F G n) = F.upTo n := by
  induction n with
  | zero => rfl
  | succ n ih => show wsum (kidPairs F G n ++ [(F.itAt n, G.itAt n)]) = F.upTo n + ((F.kidsAt n).size + 1); rw [wsum_append, ih]; rfl
theorem upTo_next (k : Int) (t : ByteArray) (m e : Int) (a : Option Addr) (c : Nat) (kids next : Fo) (n : Nat) : (Fo.cons k t m e a c kids next).upTo (n + 1) = kids.size + 1 + next.upTo n := by
  induction n with
  | zero => show 0 + (kids.size + 1) = kids.size + 1 + 0; omega
  | succ n ih => show (Fo.cons k t m e a c kids next).upTo (n + 1) + ((next.kidsAt n).size + 1) = kids.size + 1 + (next.upTo n + ((next.kidsAt n).size + 1)); omega
theorem upTo_len (F : Fo) : F.upTo F.len = F.size := by
  induction F with
  | nil => rfl
  | cons k t m e a c kids next _ ih => show (Fo.cons k t m e a c kids next).upTo (next.len + 1) = kids.size + 1 + next.size; rw [upTo_next, ih]
/-- what the loop keeps: S is to be done, L was met, D is done -/
structure Loop (w : World) (top : It2) (T : Nat) (S : List It2) (L : List (Pl2 × Value)) (D : List It2) : Prop where
  fwd : same2 top → ∀ p ∈ S, same2 p
  heads : ∀ p ∈ D, hsame p = true
  closed : ∀ p ∈ D, ∀ i, i < p.1.F.len → (p.1.F.itAt i, p.2.F.itAt i) ∈ D ∨ (p.1.F.itAt i, p.2.F.itAt i) ∈ S
  has : top ∈ D ∨ top ∈ S
  keys : ∀ x v, getL x L = some v → ∃ p ∈ D, x = (p.1.pl, p.2.pl)
  vals : ∀ x v, getL x L = some v → ∃ n : Nat, v = .int .i64 n ∧ 1 ≤ n ∧ n ≤ D.length
  room : D.length + wsum S ≤ T
  lie : ∀ p, p ∈ D ∨ p ∈ S → p.1.F.In w p.1.a ∧ p.2.F.In w p.2.a
theorem Loop.start {w : World} {top : It2} (h : top.1.F.In w top.1.a ∧ top.2.F.In w top.2.a) : Loop w top (top.1.F.size + 1) [top] [] [] where
  fwd := fun h p hp => by rw [List.mem_singleton] at hp; subst hp; exact h
  heads := fun p hp => absurd hp List.not_mem_nil
  closed := fun p hp => absurd hp List.not_mem_nil
  has := .inr (List.mem_singleton.2 rfl)
  keys := fun x v h => by cases h
  vals := fun x v h => by cases h
  room := by show 0 + (top.1.F.size + 1 + 0) ≤ _; omega
  lie := fun p hp => by
    rcases hp with hp | hp
    · exact absurd hp List.not_mem_nil
    · rw [List.mem_singleton] at hp; subst hp; exact h
theorem Loop.done {w : World} {top : It2} {T : Nat} {L : List (Pl2 × Value)} {D : List It2} (h : Loop w top T [] L D) : same2 top := by
  have ht : top ∈ D := by rcases h.has with h | h; exact h; cases h
  refine closed_same (fun p => p ∈ D) (fun p hp => ⟨h.heads p hp, fun i hi => ?_⟩) (top.1.F.size + 1) top (Nat.lt_succ_self _) ht
  rcases h.closed p hp i hi with h | h
  · exact h
  · cases h
theorem Loop.fails {w : World} {top p : It2} {T : Nat} {S D : List It2} {L : List (Pl2 × Value)} (h : Loop w top T (S ++ [p]) L D) (hp : hsame p = false) : ¬ same2 top := fun ht => by
  have := same2_head (h.fwd ht p (by simp))
  rw [hp] at this; cases this
theorem In_kid {w : World} {F : Fo} {a : Option Addr} (h : F.In w a) {i : Nat} (hi : i < F.len) : (F.kidsAt i).In w (F.addrAt i) := by
  obtain ⟨b, o, _, hF⟩ := Fo.from_of_len' h hi
  exact (Fo.from_at hF hi).2.1
theorem mem_move {S D : List It2} {p q : It2} (h : q ∈ D ∨ q ∈ S ++ [p]) : q ∈ p :: D ∨ q ∈ S := by
  rcases h with h | h
  · exact .inl (List.mem_cons_of_mem _ h)
  · rcases List.mem_append.1 h with h | h
    · exact .inr h
    · rw [List.mem_singleton] at h; subst h; exact .inl List.mem_cons_self
/-- a pair whose lists were met -/
theorem Loop.old {w : World} {top p : It2} {T : Nat} {S D : List It2} {L : List (Pl2 × Value)} (h : Loop w top T (S ++ [p]) L D) (hp : hsame p = true) {n : Nat} (hk : getL (p.1.pl, p.2.pl) L = some (.int .i64 n)) :
    Loop w top T S (putL (p.1.pl, p.2.pl) (.int .i64 ((n + 1 : Nat) : Int)) L) (p :: D) where
  fwd := fun ht q hq => h.fwd ht q (List.mem_append_left _ hq)
  heads := fun q hq => by
    rcases List.mem_cons.1 hq with rfl | hq
    · exact hp
    · exact h.heads q hq
  closed := fun q hq i hi => by
    rcases List.mem_cons.1 hq with rfl | hq
    · obtain ⟨r, hr, e⟩ := h.keys _ _ hk
      have hl := h.lie q (.inr (by simp))
      have hlr := h.lie r (.inl hr)
      have e1 : q.1.F = r.1.F := pl_inj hl.1 hlr.1 (congrArg Prod.fst e)
      have e2 : q.2.F = r.2.F := pl_inj hl.2 hlr.2 (congrArg Prod.snd e)
      rw [e1, e2]
      rw [e1] at hi
      exact mem_move (h.closed r hr i hi)
    · exact mem_move (h.closed q hq i hi)
  has := mem_move h.has
  keys := fun x v hx => by
    rw [getL_put] at hx
    by_cases hxk : x = (p.1.pl, p.2.pl)
    · exact ⟨p, List.mem_cons_self, hxk⟩
    · rw [if_neg hxk] at hx
      obtain ⟨q, hq, e⟩ := h.keys x v hx
      exact ⟨q, List.mem_cons_of_mem _ hq, e⟩
  vals := fun x v hx => by
    rw [getL_put] at hx
    by_cases hxk : x = (p.1.pl, p.2.pl)
    · rw [if_pos hxk] at hx
      cases hx
      obtain ⟨n', e1, e2, e3⟩ := h.vals _ _ hk
      have : n = n' := by cases e1; rfl
      subst this
      exact ⟨n + 1, rfl, by omega, by show n + 1 ≤ D.length + 1; omega⟩
    · rw [if_neg hxk] at hx
      obtain ⟨n', e1, e2, e3⟩ := h.vals x v hx
      exact ⟨n', e1, e2, by show n' ≤ D.length + 1; omega⟩
  room := by
    have := h.room
    rw [wsum_append] at this
    have e : wsum [p] = p.1.F.size + 1 + 0 := rfl
    show D.length + 1 + wsum S ≤ T
    omega
  lie := fun q hq => h.lie q (by
    rcases hq with hq | hq
    · rcases List.mem_cons.1 hq with rfl | hq
      · exact .inr (by simp)
      · exact .inl hq
    · exact .inr (List.mem_append_left _ hq))
/-- a pair whose lists were not met -/
theorem Loop.new {w : World} {top p : It2} {T : Nat} {S D : List It2} {L : List (Pl2 × Value)} (h : Loop w top T (S ++ [p]) L D) (hp : hsame p = true) :
    Loop w top T (S ++ kidPairs p.1.F p.2.F p.1.F.len) (putL (p.1.pl, p.2.pl) (.int .i64 1) L) (p :: D) where
  fwd := fun ht q hq => by
    rcases List.mem_append.1 hq with hq | hq
    · exact h.fwd ht q (List.mem_append_left _ hq)
    · obtain ⟨i, hi, rfl⟩ := kidPairs_mem.1 hq
      exact alike_kids (h.fwd ht p (by simp)).2 i hi
  heads := fun q hq => by
    rcases List.mem_cons.1 hq with rfl | hq
    · exact hp
    · exact h.heads q hq
  closed := fun q hq i hi => by
    rcases List.mem_cons.1 hq with rfl | hq
    · exact .inr (List.mem_append_right _ (kidPairs_mem.2 ⟨i, hi, rfl⟩))
    · rcases mem_move (h.closed q hq i hi) with h | h
      · exact .inl h
      · exact .inr (List.mem_append_left _ h)
  has := by
    rcases mem_move h.has with h | h
    · exact .inl h
    · exact .inr (List.mem_append_left _ h)
  keys := fun x v hx => by
    rw [getL_put] at hx
    by_cases hxk : x = (p.1.pl, p.2.pl)
    · exact ⟨p, List.mem_cons_self, hxk⟩
    · rw [if_neg hxk] at hx
      obtain ⟨q, hq, e⟩ := h.keys x v hx
      exact ⟨q, List.mem_cons_of_mem _ hq, e⟩
  vals := fun x v hx => by
    rw [getL_put] at hx
    by_cases hxk : x = (p.1.pl, p.2.pl)
    · rw [if_pos hxk] at hx
      cases hx
      exact ⟨1, rfl, by omega, by show 1 ≤ D.length + 1; omega⟩
    · rw [if_neg hxk] at hx
      obtain ⟨n', e1, e2, e3⟩ := h.vals x v hx
      exact ⟨n', e1, e2, by show n' ≤ D.length + 1; omega⟩
  room := by
    have := h.room
    rw [wsum_append] at this ⊢
    rw [wsum_kids, upTo_len]
    have e : wsum [p] = p.1.F.size + 1 + 0 := rfl
    show D.length + 1 + (wsum S + p.1.F.size) ≤ T
    omega
  lie := fun q hq => by
    rcases hq with hq | hq
    · rcases List.mem_cons.1 hq with rfl | hq
      · exact h.lie q (.inr (by simp))
      · exact h.lie q (.inl hq)
    · rcases List.mem_append.1 hq with hq | hq
      · exact h.lie q (.inr (List.mem_append_left _ hq))
      · obtain ⟨i, hi, rfl⟩ := kidPairs_mem.1 hq
        have hl := h.lie p (.inr (by simp))
        have hlen := ((hsame_iff p).1 hp).2
        exact ⟨In_kid hl.1 hi, In_kid hl.2 (by omega)⟩
end Go.Proofs.Ytalncebnahlmdaa
/- TreeSame of the specification. -/
namespace Go.Proofs.Ytalncebnahlmdaa
open Go.RowKit
/-- two boxes' lists, a tree of each, and nothing old changed -/
abbrev HeldS (W0 : World) (x4 y4 : Nat) (sx sy : Value) (b o b2 o2 : Nat) (F G : Fo) (j : Nat) (w : World) : Prop :=
  (w.cell? ⟨x4, 4, none⟩ = some sx ∧ w.cell? ⟨y4, 4, none⟩ = some sy) ∧
  (w.cell? ⟨b, o + j * 5, none⟩ = some (.int .i64 (F.kindAt j)) ∧ w.cell? ⟨b, o + j * 5 + 1, none⟩ = some (.string (F.textAt j)) ∧ w.cell? ⟨b, o + j * 5 + 2, none⟩ = some (.int .i64 (F.manAt j)) ∧ w.cell? ⟨b, o + j * 5 + 3, none⟩ = some (.int .i64 (F.expAt j)) ∧ w.cell? ⟨b, o + j * 5 + 4, none⟩ = some (.slice (F.addrAt j) (F.kidsAt j).len (F.capAt j))) ∧
  (w.cell? ⟨b2, o2 + j * 5, none⟩ = some (.int .i64 (G.kindAt j)) ∧ w.cell? ⟨b2, o2 + j * 5 + 1, none⟩ = some (.string (G.textAt j)) ∧ w.cell? ⟨b2, o2 + j * 5 + 2, none⟩ = some (.int .i64 (G.manAt j)) ∧ w.cell? ⟨b2, o2 + j * 5 + 3, none⟩ = some (.int .i64 (G.expAt j)) ∧ w.cell? ⟨b2, o2 + j * 5 + 4, none⟩ = some (.slice (G.addrAt j) (G.kidsAt j).len (G.capAt j))) ∧
  Below W0.heap.size W0 w
/-- a truth that says whether -/
def SaysT (p : Prop) (r : Ending) : Prop := ∃ q : Bool, r = .returned (.bool q) ∧ (q = true ↔ p)
end Go.Proofs.Ytalncebnahlmdaa
