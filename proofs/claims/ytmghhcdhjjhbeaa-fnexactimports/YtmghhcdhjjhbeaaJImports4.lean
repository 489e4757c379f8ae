/- My own texts, joined: Rw Vb Vd Kp Sa Sc Se Ud La Ue. -/
import Derived.Test.YtmghhcdhjjhbeaaJImports3
import Derived.Deep.RegionHeld3
import Derived.Laws.MakeOwn
import Derived.Test.YtmghhcdhjjhbeaaJImports1
import Derived.LaidEql
import Derived.Laws.StructEq
import Derived.WideKeyRuns
import Derived.Deep.AppendLies
import Derived.Deep.DeepCutAuto
import Derived.Carry
/- A block's cells, that may be written, as a list of values. -/
namespace Go.Proofs.Ytmghhcdhjjhbeaa
open Go.RowKit
attribute [local go_sem] cell_alloc_is frozen_alloc_is
/-- block b has these cells at its beginning, and they may be written -/
def Row (w : World) (b : Nat) (vs : List Value) : Prop := ∀ i v, vs[i]? = some v → w.cell? ⟨b, i, none⟩ = some v ∧ w.frozen? ⟨b, i, none⟩ = false
theorem Row.new (w : World) (vs : List Value) (T : TypeId) : Row (w.alloc (.cells vs.toArray T)) w.heap.size vs := by
  intro i v hi
  refine ⟨?_, by simp⟩
  rw [World.cell?_alloc_new]
  simpa using hi
theorem Row.lt {w : World} {b : Nat} {v : Value} {vs : List Value} (h : Row w b (v :: vs)) : b < w.heap.size := World.block_lt_of_cell? w _ (h 0 v rfl).1
theorem Row.below {B : Nat} {w w' : World} {b : Nat} {vs : List Value} (h : Row w b vs) (hb : Below B w w') (hB : b < B) : Row w' b vs := fun i v hi =>
  ⟨(hb.cell (p := ⟨b, i, none⟩) hB).trans (h i v hi).1, (hb.frozen (p := ⟨b, i, none⟩) hB).trans (h i v hi).2⟩
theorem Row.setOther {w : World} {b : Nat} {vs : List Value} (h : Row w b vs) {j : Nat} (hj : ¬ b = j) (o : Nat) (u : Value) : Row (w.setCell ⟨j, o, none⟩ u) b vs := fun i v hi =>
  ⟨(World.cell?_setCell_other _ _ _ _ (fun e => hj (by simpa using congrArg Addr.block e.symm))).trans (h i v hi).1, by simpa using (h i v hi).2⟩
theorem Row.set {w : World} {b : Nat} {vs : List Value} (h : Row w b vs) {i : Nat} (hi : i < vs.length) (u : Value) : Row (w.setCell ⟨b, i, none⟩ u) b (vs.set i u) := by
  intro j v hj
  rw [List.getElem?_set] at hj
  by_cases e : i = j
  · subst e
    rw [if_pos rfl, if_pos hi] at hj
    cases hj
    have h0 := h i (vs[i]) (List.getElem?_eq_getElem hi)
    exact ⟨set_near ⟨_, h0.1⟩, by simpa using h0.2⟩
  · rw [if_neg e] at hj
    have h0 := h j v hj
    exact ⟨(set_far e).trans h0.1, by simpa using h0.2⟩
/-- block nb has so many cells, and they may be written -/
def RoomN (w : World) (nb n : Nat) : Prop := ∀ o, o < n → (∃ v, w.cell? ⟨nb, o, none⟩ = some v) ∧ w.frozen? ⟨nb, o, none⟩ = false
theorem RoomN.grow {w w' : World} {nb n : Nat} (h : RoomN w nb n) (hb : Below w.heap.size w w') : RoomN w' nb n := by
  intro o ho
  obtain ⟨⟨v, h1⟩, h2⟩ := h o ho
  have hl := World.block_lt_of_cell? w _ h1
  exact ⟨⟨v, (hb.cell (p := ⟨nb, o, none⟩) hl).trans h1⟩, (hb.frozen (p := ⟨nb, o, none⟩) hl).trans h2⟩
theorem RoomN.set {w : World} {nb n : Nat} (h : RoomN w nb n) (b o : Nat) (v : Value) : RoomN (w.setCell ⟨b, o, none⟩ v) nb n := by
  intro o' ho
  obtain ⟨h1, h2⟩ := h o' ho
  refine ⟨?_, by simpa using h2⟩
  obtain ⟨u, hu⟩ := h1
  exact cell?_setCell_some hu
end Go.Proofs.Ytmghhcdhjjhbeaa
/- Lists of texts: the laws' measure, copy and comparison, and slices.Equal. -/
namespace Go.Proofs.Ytmghhcdhjjhbeaa
open Go.RowKit
attribute [local go_sem] cell_alloc_is frozen_alloc_is
set_option maxRecDepth 100000 in
set_option maxHeartbeats 1000000 in
theorem es6 {Q : Exit → Act → World → Prop} {t2 t3 t4 t6 t7 t8 t9 t10 t11 t12 t13 t14 t15 t16 t17 t18 t19 t20 t21 t22 t23 t24 t25 : Value} {W : World} {b o n c b2 o2 n2 c2 j : Nat} {s s2 : ByteArray} {q : Bool}
    (hj : (j : Int) < (n : Int)) (hj2 : (j : Int) < (n2 : Int)) (h1 : W.cell? ⟨b, o + j, none⟩ = some (.string s)) (h2 : W.cell? ⟨b2, o2 + j, none⟩ = some (.string s2)) (hq : (s.toList == s2.toList) = !q)
    (hp : ∀ p d v a w, Q (.panic p) (Act.put a d v) w → Q (.panic p) a w) (h : ∀ ws v17 v18 v19 v20 v21 v22 v23 v24, Below W.heap.size W ws → Q .normal { tmps := ((.slice (some ⟨b, o, none⟩) n c) :: (.slice (some ⟨b2, o2, none⟩) n2 c2) :: t2 :: t3 :: t4 :: (.int .i64 (j : Nat)) :: t6 :: t7 :: t8 :: t9 :: t10 :: t11 :: t12 :: t13 :: t14 :: t15 :: t16 :: v17 :: v18 :: v19 :: v20 :: v21 :: v22 :: v23 :: v24 :: .bool q :: []).toArray, defers := [] } ws) :
    Code.wp Try.prog (Code.region 6 #[{ dst := some 17, op := Op.move (Operand.tmp 0), type := 25, pos := "exact.go:261", after := #[], guard := none }, { dst := some 18, op := Op.move (Operand.tmp 5), type := 3, pos := "exact.go:261", after := #[], guard := none }, { dst := some 19, op := Op.indexAddr 25 (Operand.tmp 17) (Operand.tmp 18), type := 0, pos := "exact.go:261", after := #[{ on := 0, ground := Ground.data }, { on := 1, ground := Ground.data }], guard := none }, { dst := some 20, op := Op.load 9 (Operand.tmp 19), type := 9, pos := "exact.go:261", after := #[{ on := 2, ground := Ground.data }], guard := none }, { dst := some 21, op := Op.move (Operand.tmp 1), type := 25, pos := "exact.go:261", after := #[], guard := none }, { dst := some 22, op := Op.move (Operand.tmp 5), type := 3, pos := "exact.go:261", after := #[], guard := none }, { dst := some 23, op := Op.indexAddr 25 (Operand.tmp 21) (Operand.tmp 22), type := 0, pos := "exact.go:261", after := #[{ on := 4, ground := Ground.data }, { on := 5, ground := Ground.data }], guard := none }, { dst := some 24, op := Op.load 9 (Operand.tmp 23), type := 9, pos := "exact.go:261", after := #[{ on := 6, ground := Ground.data }], guard := none }, { dst := some 25, op := Op.binOp BinOp.neq 9 (Operand.tmp 20) (Operand.tmp 24) 9, type := 4, pos := "exact.go:261", after := #[{ on := 3, ground := Ground.data }, { on := 7, ground := Ground.data }], guard := none }] true) Q { tmps := ((.slice (some ⟨b, o, none⟩) n c) :: (.slice (some ⟨b2, o2, none⟩) n2 c2) :: t2 :: t3 :: t4 :: (.int .i64 (j : Nat)) :: t6 :: t7 :: t8 :: t9 :: t10 :: t11 :: t12 :: t13 :: t14 :: t15 :: t16 :: t17 :: t18 :: t19 :: t20 :: t21 :: t22 :: t23 :: t24 :: t25 :: []).toArray, defers := [] } W := by
  have hS0 : W.drew.cell? ⟨b, o + j, none⟩ = some (.string s) ∧ W.drew.cell? ⟨b2, o2 + j, none⟩ = some (.string s2) := ⟨h1, h2⟩
  refine wp_region_held_drew (S := fun w' => w'.cell? ⟨b, o + j, none⟩ = some (.string s) ∧ w'.cell? ⟨b2, o2 + j, none⟩ = some (.string s2)) (by kernel_rfl) hS0 (fun hHeld => ?_)
  refine wpAnyH_take (i := 0) (v := .slice (some ⟨b, o, none⟩) n c) rfl (by kernel_rfl) (by kernel_rfl) (by kernel_rfl) (fun _ _ _ h => hp _ _ _ _ _ h) (Or.inl ⟨by rfl, ?_⟩) (by assumption) ?_
  · intro w hSw
    (try dsimp only at hSw)
    go_simp
  (try simp only [Act.put, List.getElem_toArray, List.getElem_cons_zero, List.setIfInBounds_toArray, List.set_cons_zero, List.set_cons_succ])
  refine wpAnyH_take (i := 1) (v := .int .i64 (j : Nat)) rfl (by kernel_rfl) (by kernel_rfl) (by kernel_rfl) (fun _ _ _ h => hp _ _ _ _ _ h) (Or.inl ⟨by rfl, ?_⟩) (by assumption) ?_
  · intro w hSw
    (try dsimp only at hSw)
    go_simp
  (try simp only [Act.put, List.getElem_toArray, List.getElem_cons_zero, List.getElem_cons_succ, List.setIfInBounds_toArray, List.set_cons_zero, List.set_cons_succ])
  refine wpAnyH_take (i := 2) (v := .pointer (some ⟨b, o + j, none⟩)) rfl (by kernel_rfl) (by kernel_rfl) (by kernel_rfl) (fun _ _ _ h => hp _ _ _ _ _ h) (Or.inl ⟨by rfl, ?_⟩) (by assumption) ?_
  · intro w hSw
    (try dsimp only at hSw)
    go_simp
  (try simp only [Act.put, List.getElem_toArray, List.getElem_cons_zero, List.getElem_cons_succ, List.setIfInBounds_toArray, List.set_cons_zero, List.set_cons_succ])
  refine wpAnyH_take (i := 3) (v := .string s) rfl (by kernel_rfl) (by kernel_rfl) (by kernel_rfl) (fun _ _ _ h => hp _ _ _ _ _ h) (Or.inl ⟨by rfl, ?_⟩) (by assumption) ?_
  · intro w hSw
    (try dsimp only at hSw)
    go_simp
  (try simp only [Act.put, List.getElem_toArray, List.getElem_cons_zero, List.getElem_cons_succ, List.setIfInBounds_toArray, List.set_cons_zero, List.set_cons_succ])
  refine wpAnyH_take (i := 4) (v := .slice (some ⟨b2, o2, none⟩) n2 c2) rfl (by kernel_rfl) (by kernel_rfl) (by kernel_rfl) (fun _ _ _ h => hp _ _ _ _ _ h) (Or.inl ⟨by rfl, ?_⟩) (by assumption) ?_
  · intro w hSw
    (try dsimp only at hSw)
    go_simp
  (try simp only [Act.put, List.getElem_toArray, List.getElem_cons_zero, List.getElem_cons_succ, List.setIfInBounds_toArray, List.set_cons_zero, List.set_cons_succ])
  refine wpAnyH_take (i := 5) (v := .int .i64 (j : Nat)) rfl (by kernel_rfl) (by kernel_rfl) (by kernel_rfl) (fun _ _ _ h => hp _ _ _ _ _ h) (Or.inl ⟨by rfl, ?_⟩) (by assumption) ?_
  · intro w hSw
    (try dsimp only at hSw)
    go_simp
  (try simp only [Act.put, List.getElem_toArray, List.getElem_cons_zero, List.getElem_cons_succ, List.setIfInBounds_toArray, List.set_cons_zero, List.set_cons_succ])
  refine wpAnyH_take (i := 6) (v := .pointer (some ⟨b2, o2 + j, none⟩)) rfl (by kernel_rfl) (by kernel_rfl) (by kernel_rfl) (fun _ _ _ h => hp _ _ _ _ _ h) (Or.inl ⟨by rfl, ?_⟩) (by assumption) ?_
  · intro w hSw
    (try dsimp only at hSw)
    go_simp
  (try simp only [Act.put, List.getElem_toArray, List.getElem_cons_zero, List.getElem_cons_succ, List.setIfInBounds_toArray, List.set_cons_zero, List.set_cons_succ])
  refine wpAnyH_take (i := 7) (v := .string s2) rfl (by kernel_rfl) (by kernel_rfl) (by kernel_rfl) (fun _ _ _ h => hp _ _ _ _ _ h) (Or.inl ⟨by rfl, ?_⟩) (by assumption) ?_
  · intro w hSw
    (try dsimp only at hSw)
    go_simp
  (try simp only [Act.put, List.getElem_toArray, List.getElem_cons_zero, List.getElem_cons_succ, List.setIfInBounds_toArray, List.set_cons_zero, List.set_cons_succ])
  refine wpAnyH_take (i := 8) (v := .bool q) rfl (by kernel_rfl) (by kernel_rfl) (by kernel_rfl) (fun _ _ _ h => hp _ _ _ _ _ h) (Or.inl ⟨by rfl, ?_⟩) (by assumption) ?_
  · intro w hSw
    (try dsimp only at hSw)
    go_simp
  (try simp only [Act.put, List.getElem_toArray, List.getElem_cons_zero, List.getElem_cons_succ, List.setIfInBounds_toArray, List.set_cons_zero, List.set_cons_succ])
  refine wpAnyH_done (by kernel_rfl) ?_ _
  exact h _ _ _ _ _ _ _ _ _ ((Below.refl W.heap.size W).drew)
theorem text_ext {a b : ByteArray} (h : a.toList = b.toList) : a = b := by
  rw [ByteArray.toList_eq, ByteArray.toList_eq] at h
  cases a; cases b; simpa using h
theorem text_ne {a b : ByteArray} (h : a ≠ b) : (a.toList != b.toList) = true := by
  rw [bne_iff_ne]; exact fun e => h (text_ext e)
set_option maxRecDepth 100000 in
set_option maxHeartbeats 1000000 in
theorem eqStringS_any (ss tt : List ByteArray) (a a2 : Option Addr) (c c2 : Nat) (w : World) (hin : SIn w ss a) (hin2 : SIn w tt a2) (hl : ss.length ≤ c) (hc : c ≤ maxLen) (hl2 : tt.length ≤ c2) :
    Calls Try.prog 23 #[.slice a ss.length c, .slice a2 tt.length c2] w fun r w' => r = .returned (.bool (decide (ss = tt))) ∧ Below w.heap.size w w' := by
  unfold maxLen at hc
  by_cases hlen : ss.length = tt.length
  · obtain ⟨N, hN⟩ : ∃ N, ss.length = N := ⟨_, rfl⟩
    have HN : Hid (ss.length = N) := hN
    have HN2 : Hid (tt.length = N) := hlen.symm.trans hN
    rw [← hlen, hN] at hl2 ⊢
    rw [hN] at hl
    clear hlen hN
    go_enter Try.func23, Try.ntmps23
    go_wp2_with fail
    go_loopw [5] (fun i wr => ∃ (j : Nat), i = .int .i64 j ∧ j ≤ N ∧ (∀ q, q < j → ss[q]? = tt[q]?) ∧ Below w.heap.size w wr) (fun i _ => N - (intOf i).toNat)
    case atStart => exact ⟨0, rfl, Nat.zero_le _, fun q hq => absurd hq (Nat.not_lt_zero _), Below.refl _ _⟩
    case round =>
      obtain ⟨j, rfl, hj, hP, hb⟩ := hrel
      have HP : Hid (∀ q, q < j → ss[q]? = tt[q]?) := hP
      clear hP
      by_cases hjn : j < N
      · have hlt : (j : Int) < (N : Int) := by omega
        obtain ⟨s, hs⟩ : ∃ s, ss[j]? = some s := ⟨ss[j]'(by rw [HN.out]; exact hjn), List.getElem?_eq_getElem _⟩
        obtain ⟨s2, hs2⟩ : ∃ s, tt[j]? = some s := ⟨tt[j]'(by rw [HN2.out]; exact hjn), List.getElem?_eq_getElem _⟩
        rcases hin with hin | ⟨b, o, rfl, hF⟩
        · rw [hin] at hs; simp at hs
        rcases hin2 with hin2 | ⟨b2, o2, rfl, hF2⟩
        · rw [hin2] at hs2; simp at hs2
        have h1 := ((hF.grow hb).at hs).1
        have h2 := ((hF2.grow hb).at hs2).1
        have HS : Hid (ss[j]? = some s ∧ tt[j]? = some s2) := ⟨hs, hs2⟩
        clear hs hs2 hF hF2
        by_cases he : s = s2
        · subst he
          go_wp2_with fail
          refine es6 hlt hlt h1 h2 (q := false) (by simp) (fun _ d _ _ _ h => by cases d <;> exact h) ?_
          intro ws v17 v18 v19 v20 v21 v22 v23 v24 hb1
          have hb2 := hb.trans (hb1.mono hb.size)
          clear h1 h2 hb1 hb
          go_wp2_with fail
          go_round
          case rel =>
            refine ⟨j + 1, by go_num, by omega, fun q hq => ?_, hb2⟩
            by_cases e : q = j
            · rw [e, HS.out.1, HS.out.2]
            · exact HP.out q (by omega)
          case measure => simp [intOf]; omega
        · have hne := text_ne he
          have HR : Hid (decide (ss = tt) = false) := decide_eq_false fun e => he (by have := HS.out; rw [e] at this; exact Option.some.inj (this.1.symm.trans this.2))
          go_wp2_with fail
          refine es6 hlt hlt h1 h2 (q := true) (by simpa using hne) (fun _ d _ _ _ h => by cases d <;> exact h) ?_
          intro ws v17 v18 v19 v20 v21 v22 v23 v24 hb1
          have hb2 := hb.trans (hb1.mono hb.size)
          clear h1 h2 hb1 hb hne
          go_wp2_with fail
          go_ret
          exact ⟨by rw [HR.out]; rfl, hb2⟩
      · have e : j = N := by omega
        subst e
        have HR : Hid (decide (ss = tt) = true) := decide_eq_true (List.ext_getElem? fun i => by
          by_cases hi : i < j
          · exact HP.out i hi
          · rw [List.getElem?_eq_none (by rw [HN.out]; omega), List.getElem?_eq_none (by rw [HN2.out]; omega)])
        clear hin hin2
        go_wp2_with fail
        go_ret
        exact ⟨by rw [HR.out]; rfl, hb⟩
  · have hne : ((ss.length : Int) != (tt.length : Int)) = true := by simp; omega
    have HR : Hid (decide (ss = tt) = false) := decide_eq_false fun e => hlen (by rw [e])
    rw [HR.out]
    obtain ⟨n1, h1⟩ : ∃ n1, ss.length = n1 := ⟨_, rfl⟩
    obtain ⟨n2, h2⟩ : ∃ n2, tt.length = n2 := ⟨_, rfl⟩
    rw [h1, h2] at hne hlen ⊢
    have hlen' : ¬ (n1 : Int) = (n2 : Int) := by omega
    clear hin hin2 h1 h2 HR
    go_enter Try.func23, Try.ntmps23
    go_wp2_with fail
    go_ret
    exact ⟨rfl, Below.refl _ _⟩
end Go.Proofs.Ytmghhcdhjjhbeaa
/- Contracts over values: the laws' own copy of a value, in cells that were never shared with a text. -/
namespace Go.Proofs.Ytmghhcdhjjhbeaa
open Go.RowKit
attribute [local go_sem] cell_alloc_is frozen_alloc_is
theorem valInfo : (Try.prog.info? 32).map (fun i => (i.zero, i.size, i.bytes)) = some (some (.agg #[.int .i64 0, .int .i64 0, .int .i64 0, .string ⟨#[]⟩, .slice none 0 0, .slice none 0 0]), 6, 88) := by kernel_rfl
/-- a value's names in another place -/
def Hd.to (h : Hd) (b : Nat) : Hd := ⟨h.k, h.m, h.e, h.t, some ⟨b, 0, none⟩, h.ns.length, h.ns⟩
end Go.Proofs.Ytmghhcdhjjhbeaa
/- Maps whose keys are places of lists: when two keys are the same. -/
namespace Go.Proofs.Ytmghhcdhjjhbeaa
open Go.RowKit
/-- where a list lies: nowhere, if it is empty -/
abbrev Pl := Option Addr × Nat
/-- where two lists lie -/
abbrev Pl2 := Pl × Pl
/-- a map of keys that can be held against each other -/
structure Keys (K : Type) [DecidableEq K] (P : Program) (kt : TypeId) where
  kv : K → Value
  ok : World → K → Prop
  wide : (match P.underlying kt with | some (.array _ _) | some (.struct _) => true | _ => false) = true
  eq : ∀ w x y, ok w x → ok w y → (Op.equal kt (kv x) (kv y)).run P w = .ok (decide (x = y)) w
  check : ∀ w em x, (Instr.checkKey em 10000 kt (kv x)).run P w = .ok () w
  bits : ∀ x, Instr.sameBits 10000 (kv x) (kv x) = true
section
variable {K : Type} [DecidableEq K] {P : Program} {kt : TypeId} (Q : Keys K P kt)
/-- block b is the map of these keys and values -/
def Keys.Is (w : World) (b : Nat) (L : List (K × Value)) : Prop := ∃ es clock, w.heap[b]? = some (.map es clock) ∧ es.toList.map (fun e => (e.key, e.val)) = L.map (fun p => (Q.kv p.1, p.2))
def seekL (x : K) : List (K × Value) → Nat → Option (Nat × Value)
  | [], _ => none
  | (k, v) :: t, i => if x = k then some (i, v) else seekL x t (i + 1)
def getL (x : K) : List (K × Value) → Option Value
  | [] => none
  | (k, v) :: t => if x = k then some v else getL x t
def putL (x : K) (v : Value) : List (K × Value) → List (K × Value)
  | [] => [(x, v)]
  | (k, u) :: t => if x = k then (x, v) :: t else (k, u) :: putL x v t
theorem getL_put (x y : K) (v : Value) : ∀ (L : List (K × Value)), getL y (putL x v L) = if y = x then some v else getL y L := by
  intro L
  induction L with
  | nil => unfold putL getL; split <;> simp_all [getL]
  | cons p t ih =>
    obtain ⟨k, u⟩ := p
    unfold putL
    by_cases h : x = k
    · subst h
      rw [if_pos rfl]
      show (if y = x then some v else getL y t) = if y = x then some v else (if y = x then some u else getL y t)
      by_cases h2 : y = x <;> simp [h2]
    · rw [if_neg h]
      show (if y = k then some u else getL y (putL x v t)) = if y = x then some v else (if y = k then some u else getL y t)
      rw [ih]
      by_cases h2 : y = k
      · subst h2; rw [if_pos rfl, if_neg (fun e => h e.symm), if_pos rfl]
      · rw [if_neg h2, if_neg h2]
theorem Keys.asking (w : World) (x : K) (hx : Q.ok w x) : ∀ (L : List (K × Value)) (es : List MapEntry) (i : Nat), (∀ p ∈ L, Q.ok w p.1) → es.map (fun e => (e.key, e.val)) = L.map (fun p => (Q.kv p.1, p.2)) → (Instr.findAsking kt (Q.kv x) es i).run P w = .ok (seekL x L i) w := by
  intro L
  induction L with
  | nil =>
    intro es i _ h
    have : es = [] := by cases es with | nil => rfl | cons e es => simp at h
    subst this
    simp [Instr.findAsking, seekL]
  | cons p t ih =>
    obtain ⟨k, v⟩ := p
    intro es i hok h
    cases es with
    | nil => simp at h
    | cons e es =>
      simp only [List.map_cons, List.cons.injEq, Prod.mk.injEq] at h
      obtain ⟨⟨h1, h2⟩, h3⟩ := h
      have he := Q.eq w x k hx (hok (k, v) List.mem_cons_self)
      rw [← h1] at he
      have hi := ih es (i + 1) (fun p hp => hok p (List.mem_cons_of_mem _ hp)) h3
      by_cases hk : x = k
      · subst hk
        rw [decide_eq_true rfl] at he
        simp [Instr.findAsking, he, seekL, h2]
      · have hd : decide (x = k) = false := decide_eq_false hk
        rw [hd] at he
        simp [Instr.findAsking, he, seekL, hk, hi]
theorem Keys.find (w : World) (x : K) (hx : Q.ok w x) (L : List (K × Value)) (es : List MapEntry) (hok : ∀ p ∈ L, Q.ok w p.1) (h : es.map (fun e => (e.key, e.val)) = L.map (fun p => (Q.kv p.1, p.2))) :
    (Instr.findKey kt (Q.kv x) es).run P w = .ok (seekL x L 0) w := by
  rw [run_findKey_eq w Q.wide]
  exact Q.asking w x hx L es 0 hok h
theorem seekL_some {x : K} : ∀ {L : List (K × Value)} {i j : Nat} {v : Value}, seekL x L i = some (j, v) → ∃ n u, j = i + n ∧ L[n]? = some (x, u) ∧ ∀ w, putL x w L = L.set n (x, w) := by
  intro L
  induction L with
  | nil => intro i j v h; cases h
  | cons p t ih =>
    obtain ⟨k, u⟩ := p
    intro i j v h
    unfold seekL at h
    by_cases hk : x = k
    · rw [if_pos hk] at h
      cases h
      subst hk
      exact ⟨0, _, rfl, rfl, fun w => by unfold putL; rw [if_pos rfl]; rfl⟩
    · rw [if_neg hk] at h
      obtain ⟨n, u', e1, e2, e3⟩ := ih h
      exact ⟨n + 1, u', by omega, by simpa using e2, fun w => by unfold putL; rw [if_neg hk, e3 w]; rfl⟩
theorem seekL_none {x : K} : ∀ {L : List (K × Value)} {i : Nat}, seekL x L i = none → ∀ w, putL x w L = L ++ [(x, w)] := by
  intro L
  induction L with
  | nil => intro i _ w; rfl
  | cons p t ih =>
    obtain ⟨k, u⟩ := p
    intro i h w
    unfold seekL at h
    by_cases hk : x = k
    · rw [if_pos hk] at h; cases h
    · rw [if_neg hk] at h
      unfold putL
      rw [if_neg hk, ih h w]; rfl
theorem Keys.put {mty et : TypeId} (hm : P.underlying mty = some (.map kt et)) {w : World} {b : Nat} {L : List (K × Value)} (x : K) (v : Value) (hx : Q.ok w x) (hok : ∀ p ∈ L, Q.ok w p.1) (hb : Q.Is w b L) :
    ∃ w', (Instr.mapUpdate mty (.map (some b)) (Q.kv x) v).run P w = .ok () w' ∧ Q.Is w' b (putL x v L) ∧ w.grownBy w' (some b) ∧ w'.heap.size = w.heap.size := by
  obtain ⟨es, clock, hh, he⟩ := hb
  have hf := Q.find w x hx L es.toList hok he
  have hlt := (Array.getElem?_eq_some_iff.1 hh).1
  cases h : seekL x L 0 with
  | none =>
    rw [h] at hf
    refine ⟨_, by simp [Instr.mapUpdate, run_underlying hm, MapKept.run_getObj_map hh, Q.check, hf, MapKept.run_setObj_map _ hh, Result.andThen]; rfl, ?_, ?_, by simp⟩
    · refine ⟨_, _, (MapKept.heap_set hh).1, ?_⟩
      rw [seekL_none h, Array.toList_push, List.map_append, he, List.map_append]
      rfl
    · exact ⟨rfl, rfl, rfl, by simp, fun i _ hi => (MapKept.heap_set hh).2 i (fun e => hi (by rw [e]))⟩
  | some p =>
    obtain ⟨j, u⟩ := p
    rw [h] at hf
    obtain ⟨n, u', e1, e2, e3⟩ := seekL_some h
    rw [Nat.zero_add] at e1
    subst e1
    have hkey : (es[j]?).map (·.key) = some (Q.kv x) := by
      have h1 : (es.toList.map (fun e => (e.key, e.val)))[j]? = some (Q.kv x, u') := by rw [he, List.getElem?_map, e2]; rfl
      rw [List.getElem?_map, Array.getElem?_toList] at h1
      cases hj : es[j]? with
      | none => rw [hj] at h1; cases h1
      | some e => rw [hj] at h1; simp only [Option.map_some, Option.some.injEq, Prod.mk.injEq] at h1; simp [h1.1]
    have hks : (Instr.keyThatStays (((es[j]?).map (·.key)).getD (Q.kv x)) (Q.kv x)).run P w = .ok (Q.kv x) w := by
      rw [hkey]
      simp [Instr.keyThatStays, Q.bits]
    refine ⟨_, by simp [Instr.mapUpdate, run_underlying hm, MapKept.run_getObj_map hh, Q.check, hf, hks, MapKept.run_setObj_map _ hh, Result.andThen]; rfl, ?_, ?_, by simp⟩
    · refine ⟨_, _, (MapKept.heap_set hh).1, ?_⟩
      rw [e3 v]
      apply List.ext_getElem?
      intro i
      have hi : (es.toList.map (fun e => (e.key, e.val)))[i]? = (L.map (fun p => (Q.kv p.1, p.2)))[i]? := by rw [he]
      rw [List.getElem?_map, List.getElem?_map, Array.getElem?_toList] at hi
      rw [List.getElem?_map, List.getElem?_map, Array.getElem?_toList, Array.getElem?_modify, List.getElem?_set]
      by_cases hij : j = i
      · subst hij
        have hl : j < L.length := (List.getElem?_eq_some_iff.1 e2).1
        rw [if_pos rfl, if_pos rfl, if_pos hl]
        cases hj : es[j]? with
        | none => rw [hj] at hkey; cases hkey
        | some e => rfl
      · rw [if_neg hij, if_neg hij]; exact hi
    · exact ⟨rfl, rfl, rfl, by simp, fun i _ hi => (MapKept.heap_set hh).2 i (fun e => hi (by rw [e]))⟩
theorem Keys.Is.grown {w w' : World} {b : Nat} {L : List (K × Value)} (h : Q.Is w b L) (hb : w'.heap[b]? = w.heap[b]?) : Q.Is w' b L := by
  obtain ⟨es, clock, hh, he⟩ := h
  exact ⟨es, clock, hb.trans hh, he⟩
end
end Go.Proofs.Ytmghhcdhjjhbeaa
/- Two trees that are the same, by the program: places of lists, heads, pairs. -/
namespace Go.Proofs.Ytmghhcdhjjhbeaa
open Go.RowKit
/-- what lies at one place with one length is one list -/
theorem Fo.from_inj {w : World} : ∀ (F G : Fo) (b o : Nat), F.From w b o → G.From w b o → F.len = G.len → F = G := by
  intro F
  induction F with
  | nil =>
    intro G b o _ _ h
    cases G with
    | nil => rfl
    | cons => exact absurd h.symm (Nat.succ_ne_zero _)
  | cons k t m e a c kids next ih1 ih2 =>
    intro G b o h1 h2 h
    cases G with
    | nil => exact absurd h (Nat.succ_ne_zero _)
    | cons k' t' m' e' a' c' kids' next' =>
      obtain ⟨⟨x0, x1, x2, x3, x4⟩, hk, _, _, _, hn⟩ := h1
      obtain ⟨⟨y0, y1, y2, y3, y4⟩, hk', _, _, _, hn'⟩ := h2
      rw [x0] at y0; rw [x1] at y1; rw [x2] at y2; rw [x3] at y3; rw [x4] at y4
      simp only [Option.some.injEq, Value.int.injEq, Value.string.injEq, Value.slice.injEq, true_and] at y0 y1 y2 y3 y4
      obtain ⟨ha, hl, hc⟩ := y4
      subst y0 y1 y2 y3 ha hc
      have hkk : kids = kids' := by
        rcases hk with hk | ⟨b', o', e1, hF⟩
        · subst hk
          cases kids' with
          | nil => rfl
          | cons => exact absurd hl.symm (Nat.succ_ne_zero _)
        · rcases hk' with hk' | ⟨b2, o2, e2, hG⟩
          · subst hk'
            cases kids with
            | nil => rfl
            | cons => exact absurd hl (Nat.succ_ne_zero _)
          · rw [e1] at e2
            cases e2
            exact ih1 _ _ _ hF hG hl
      subst hkk
      rw [ih2 next' b (o + 5) hn hn' (Nat.succ.inj h)]
/-- where a list lies -/
def plOf (a : Option Addr) (n : Nat) : Pl := if n = 0 then (none, 0) else (a, n)
/-- heads that are the same -/
def headSame (k : Int) (t : ByteArray) (m e : Int) (n : Nat) (k' : Int) (t' : ByteArray) (m' e' : Int) (n' : Nat) : Bool := decide (k = k') && (decide (t.toList = t'.toList) && ((decide (m = m') && decide (e = e')) && decide (n = n')))
theorem Fo.from_of_len' {F : Fo} {w : World} {a : Option Addr} (hin : F.In w a) {i : Nat} (hi : i < F.len) : ∃ b o, a = some ⟨b, o, none⟩ ∧ F.From w b o := by
  rcases hin with rfl | h
  · exact absurd hi (Nat.not_lt_zero _)
  · exact h
end Go.Proofs.Ytmghhcdhjjhbeaa
/- Two trees that are the same: what the program's loop keeps, as plain mathematics. -/
namespace Go.Proofs.Ytmghhcdhjjhbeaa
/-- a tree as it stands in a list: its head, where its list lies, that list -/
structure It where
  k : Int
  t : ByteArray
  m : Int
  e : Int
  a : Option Addr
  F : Fo
  c : Nat
def It.cells (x : It) : List Value := [.int .i64 x.k, .string x.t, .int .i64 x.m, .int .i64 x.e, .slice x.a x.F.len x.c]
def Fo.itAt (F : Fo) (i : Nat) : It := ⟨F.kindAt i, F.textAt i, F.manAt i, F.expAt i, F.addrAt i, F.kidsAt i, F.capAt i⟩
abbrev It2 := It × It
def hsame (p : It2) : Bool := headSame p.1.k p.1.t p.1.m p.1.e p.1.F.len p.2.k p.2.t p.2.m p.2.e p.2.F.len
/-- two trees are the same but for where they lie -/
def same2 (p : It2) : Prop := (p.1.k = p.2.k ∧ p.1.t = p.2.t ∧ p.1.m = p.2.m ∧ p.1.e = p.2.e) ∧ p.1.F.alike p.2.F
theorem bytes_ext {a b : ByteArray} (h : a.toList = b.toList) : a = b := by
  rw [ByteArray.toList_eq, ByteArray.toList_eq] at h
  cases a; cases b; simpa using h
theorem hsame_iff (p : It2) : hsame p = true ↔ (p.1.k = p.2.k ∧ p.1.t = p.2.t ∧ p.1.m = p.2.m ∧ p.1.e = p.2.e) ∧ p.1.F.len = p.2.F.len := by
  unfold hsame headSame
  simp only [Bool.and_eq_true, decide_eq_true_eq]
  constructor
  · rintro ⟨h1, h2, ⟨h3, h4⟩, h5⟩; exact ⟨⟨h1, bytes_ext h2, h3, h4⟩, h5⟩
  · rintro ⟨⟨h1, h2, h3, h4⟩, h5⟩; exact ⟨h1, by rw [h2], ⟨h3, h4⟩, h5⟩
theorem alike_kids : ∀ {G F : Fo}, F.alike G → ∀ i, i < F.len → same2 (F.itAt i, G.itAt i) := by
  intro G
  induction G with
  | nil => intro F h i hi; rw [Fo.alike_nil h] at hi; exact absurd hi (Nat.not_lt_zero _)
  | cons k t m e a c kids next _ ih =>
    intro F h i hi
    obtain ⟨a', c', kids', next', rfl, h1, h2⟩ := Fo.alike_cons h
    cases i with
    | zero => exact ⟨⟨rfl, rfl, rfl, rfl⟩, h1⟩
    | succ i => exact ih h2 i (Nat.lt_of_succ_lt_succ hi)
theorem alike_of_kids : ∀ {F G : Fo}, F.len = G.len → (∀ i, i < F.len → same2 (F.itAt i, G.itAt i)) → F.alike G := by
  intro F
  induction F with
  | nil => intro G h _; cases G with
    | nil => trivial
    | cons => exact absurd h.symm (Nat.succ_ne_zero _)
  | cons k t m e a c kids next _ ih =>
    intro G h hk
    cases G with
    | nil => exact absurd h (Nat.succ_ne_zero _)
    | cons k' t' m' e' a' c' kids' next' =>
      obtain ⟨h1, h2⟩ := hk 0 (Nat.succ_pos _)
      exact ⟨h1, h2, ih (Nat.succ.inj h) fun i hi => hk (i + 1) (Nat.succ_lt_succ hi)⟩
/-- what is closed is the same all through -/
theorem closed_same (X : It2 → Prop) (h : ∀ p, X p → hsame p = true ∧ ∀ i, i < p.1.F.len → X (p.1.F.itAt i, p.2.F.itAt i)) (N : Nat) : ∀ p, p.1.F.size < N → X p → same2 p := by
  induction N with
  | zero => intro p hp; omega
  | succ N ih =>
    intro p hp hX
    obtain ⟨h1, h2⟩ := h p hX
    obtain ⟨h3, h4⟩ := (hsame_iff p).1 h1
    exact ⟨h3, alike_of_kids h4 fun i hi => ih _ (by have := Fo.size_at hi; show (p.1.F.kidsAt i).size < N; omega) (h2 i hi)⟩
/-- where a tree's list lies -/
def It.pl (x : It) : Pl := plOf x.a x.F.len
theorem pl_inj {w : World} {x y : It} (hx : x.F.In w x.a) (hy : y.F.In w y.a) (h : x.pl = y.pl) : x.F = y.F := by
  unfold It.pl plOf at h
  by_cases h1 : x.F.len = 0
  · rw [if_pos h1] at h
    by_cases h2 : y.F.len = 0
    · have e1 : x.F = .nil := by cases hF : x.F with
        | nil => rfl
        | cons => rw [hF] at h1; exact absurd h1 (Nat.succ_ne_zero _)
      have e2 : y.F = .nil := by cases hF : y.F with
        | nil => rfl
        | cons => rw [hF] at h2; exact absurd h2 (Nat.succ_ne_zero _)
      rw [e1, e2]
    · rw [if_neg h2] at h
      exact absurd (congrArg Prod.snd h).symm h2
  · rw [if_neg h1] at h
    by_cases h2 : y.F.len = 0
    · rw [if_pos h2] at h
      exact absurd (congrArg Prod.snd h) h1
    · rw [if_neg h2] at h
      have ha : x.a = y.a := congrArg Prod.fst h
      have hl : x.F.len = y.F.len := congrArg Prod.snd h
      obtain ⟨b, o, e1, f1⟩ := Fo.from_of_len' hx (show 0 < x.F.len by omega)
      obtain ⟨b', o', e2, f2⟩ := Fo.from_of_len' hy (show 0 < y.F.len by omega)
      rw [ha, e2] at e1
      cases e1
      exact Fo.from_inj _ _ _ _ f1 f2 hl
/-- the pairs of two lists -/
def kidPairs (F G : Fo) : Nat → List It2
  | 0 => []
  | n + 1 => kidPairs F G n ++ [(F.itAt n, G.itAt n)]
theorem kidPairs_mem {F G : Fo} {n : Nat} {p : It2} : p ∈ kidPairs F G n ↔ ∃ i, i < n ∧ p = (F.itAt i, G.itAt i) := by
  induction n with
  | zero =>
    constructor
    · intro h; exact absurd h (List.not_mem_nil)
    · rintro ⟨i, h, _⟩; exact absurd h (Nat.not_lt_zero _)
  | succ n ih =>
    show p ∈ kidPairs F G n ++ [(F.itAt n, G.itAt n)] ↔ _
    rw [List.mem_append, ih, List.mem_singleton]
    constructor
    · rintro (⟨i, hi, h⟩ | h)
      · exact ⟨i, by omega, h⟩
      · exact ⟨n, by omega, h⟩
    · rintro ⟨i, hi, h⟩
      rcases Nat.lt_succ_iff_lt_or_eq.1 hi with hi | rfl
      · exact .inl ⟨i, hi, h⟩
      · exact .inr h
/-- how much is to be done -/
def wsum : List It2 → Nat
  | [] => 0
  | p :: t => p.1.F.size + 1 + wsum t
theorem wsum_append (A B : List It2) : wsum (A ++ B) = wsum A + wsum B := by
  induction A with
  | nil => show wsum B = 0 + wsum B; omega
  | cons p t ih => show p.1.F.size + 1 + wsum (t ++ B) = p.1.F.size + 1 + wsum t + wsum B; omega
def Fo.upTo (F : Fo) : Nat → Nat
  | 0 => 0
  | n + 1 => F.upTo n + ((F.kidsAt n).size + 1)
theorem wsum_kids (F G : Fo) (n : Nat) : wsum (kidPairs F G n) = F.upTo n := by
  induction n with
  | zero => rfl
  | succ n ih => show wsum (kidPairs F G n ++ [(F.itAt n, G.itAt n)]) = F.upTo n + ((F.kidsAt n).size + 1); rw [wsum_append, ih]; rfl
theorem upTo_next (k : Int) (t : ByteArray) (m e : Int) (a : Option Addr) (c : Nat) (kids next : Fo) (n : Nat) : (Fo.cons k t m e a c kids next).upTo (n + 1) = kids.size + 1 + next.upTo n := by
  induction n with
  | zero => show 0 + (kids.size + 1) = kids.size + 1 + 0; omega
  | succ n ih => show (Fo.cons k t m e a c kids next).upTo (n + 1) + ((next.kidsAt n).size + 1) = kids.size + 1 + (next.upTo n + ((next.kidsAt n).size + 1)); omega
theorem upTo_len (F : Fo) : F.upTo F.len = F.size := by
  induction F with
  | nil => rfl
  | cons k t m e a c kids next _ ih => show (Fo.cons k t m e a c kids next).upTo (next.len + 1) = kids.size + 1 + next.size; rw [upTo_next, ih]
/-- what the loop keeps: S is to be done, L was met, D is done -/
structure Loop (w : World) (top : It2) (T : Nat) (S : List It2) (L : List (Pl2 × Value)) (D : List It2) : Prop where
  fwd : same2 top → ∀ p ∈ S, same2 p
  heads : ∀ p ∈ D, hsame p = true
  closed : ∀ p ∈ D, ∀ i, i < p.1.F.len → (p.1.F.itAt i, p.2.F.itAt i) ∈ D ∨ (p.1.F.itAt i, p.2.F.itAt i) ∈ S
  has : top ∈ D ∨ top ∈ S
  keys : ∀ x v, getL x L = some v → ∃ p ∈ D, x = (p.1.pl, p.2.pl)
  vals : ∀ x v, getL x L = some v → ∃ n : Nat, v = .int .i64 n ∧ 1 ≤ n ∧ n ≤ D.length
  room : D.length + wsum S ≤ T
  lie : ∀ p, p ∈ D ∨ p ∈ S → p.1.F.In w p.1.a ∧ p.2.F.In w p.2.a
theorem Loop.done {w : World} {top : It2} {T : Nat} {L : List (Pl2 × Value)} {D : List It2} (h : Loop w top T [] L D) : same2 top := by
  have ht : top ∈ D := by rcases h.has with h | h; exact h; cases h
  refine closed_same (fun p => p ∈ D) (fun p hp => ⟨h.heads p hp, fun i hi => ?_⟩) (top.1.F.size + 1) top (Nat.lt_succ_self _) ht
  rcases h.closed p hp i hi with h | h
  · exact h
  · cases h
theorem In_kid {w : World} {F : Fo} {a : Option Addr} (h : F.In w a) {i : Nat} (hi : i < F.len) : (F.kidsAt i).In w (F.addrAt i) := by
  obtain ⟨b, o, _, hF⟩ := Fo.from_of_len' h hi
  exact (Fo.from_at hF hi).2.1
theorem mem_move {S D : List It2} {p q : It2} (h : q ∈ D ∨ q ∈ S ++ [p]) : q ∈ p :: D ∨ q ∈ S := by
  rcases h with h | h
  · exact .inl (List.mem_cons_of_mem _ h)
  · rcases List.mem_append.1 h with h | h
    · exact .inr h
    · rw [List.mem_singleton] at h; subst h; exact .inl List.mem_cons_self
/-- a pair whose lists were met -/
theorem Loop.old {w : World} {top p : It2} {T : Nat} {S D : List It2} {L : List (Pl2 × Value)} (h : Loop w top T (S ++ [p]) L D) (hp : hsame p = true) {n : Nat} (hk : getL (p.1.pl, p.2.pl) L = some (.int .i64 n)) :
    Loop w top T S (putL (p.1.pl, p.2.pl) (.int .i64 ((n + 1 : Nat) : Int)) L) (p :: D) where
  fwd := fun ht q hq => h.fwd ht q (List.mem_append_left _ hq)
  heads := fun q hq => by
    rcases List.mem_cons.1 hq with rfl | hq
    · exact hp
    · exact h.heads q hq
  closed := fun q hq i hi => by
    rcases List.mem_cons.1 hq with rfl | hq
    · obtain ⟨r, hr, e⟩ := h.keys _ _ hk
      have hl := h.lie q (.inr (by simp))
      have hlr := h.lie r (.inl hr)
      have e1 : q.1.F = r.1.F := pl_inj hl.1 hlr.1 (congrArg Prod.fst e)
      have e2 : q.2.F = r.2.F := pl_inj hl.2 hlr.2 (congrArg Prod.snd e)
      rw [e1, e2]
      rw [e1] at hi
      exact mem_move (h.closed r hr i hi)
    · exact mem_move (h.closed q hq i hi)
  has := mem_move h.has
  keys := fun x v hx => by
    rw [getL_put] at hx
    by_cases hxk : x = (p.1.pl, p.2.pl)
    · exact ⟨p, List.mem_cons_self, hxk⟩
    · rw [if_neg hxk] at hx
      obtain ⟨q, hq, e⟩ := h.keys x v hx
      exact ⟨q, List.mem_cons_of_mem _ hq, e⟩
  vals := fun x v hx => by
    rw [getL_put] at hx
    by_cases hxk : x = (p.1.pl, p.2.pl)
    · rw [if_pos hxk] at hx
      cases hx
      obtain ⟨n', e1, e2, e3⟩ := h.vals _ _ hk
      have : n = n' := by cases e1; rfl
      subst this
      exact ⟨n + 1, rfl, by omega, by show n + 1 ≤ D.length + 1; omega⟩
    · rw [if_neg hxk] at hx
      obtain ⟨n', e1, e2, e3⟩ := h.vals x v hx
      exact ⟨n', e1, e2, by show n' ≤ D.length + 1; omega⟩
  room := by
    have := h.room
    rw [wsum_append] at this
    have e : wsum [p] = p.1.F.size + 1 + 0 := rfl
    show D.length + 1 + wsum S ≤ T
    omega
  lie := fun q hq => h.lie q (by
    rcases hq with hq | hq
    · rcases List.mem_cons.1 hq with rfl | hq
      · exact .inr (by simp)
      · exact .inl hq
    · exact .inr (List.mem_append_left _ hq))
/-- a pair whose lists were not met -/
theorem Loop.new {w : World} {top p : It2} {T : Nat} {S D : List It2} {L : List (Pl2 × Value)} (h : Loop w top T (S ++ [p]) L D) (hp : hsame p = true) :
    Loop w top T (S ++ kidPairs p.1.F p.2.F p.1.F.len) (putL (p.1.pl, p.2.pl) (.int .i64 1) L) (p :: D) where
  fwd := fun ht q hq => by
    rcases List.mem_append.1 hq with hq | hq
    · exact h.fwd ht q (List.mem_append_left _ hq)
    · obtain ⟨i, hi, rfl⟩ := kidPairs_mem.1 hq
      exact alike_kids (h.fwd ht p (by simp)).2 i hi
  heads := fun q hq => by
    rcases List.mem_cons.1 hq with rfl | hq
    · exact hp
    · exact h.heads q hq
  closed := fun q hq i hi => by
    rcases List.mem_cons.1 hq with rfl | hq
    · exact .inr (List.mem_append_right _ (kidPairs_mem.2 ⟨i, hi, rfl⟩))
    · rcases mem_move (h.closed q hq i hi) with h | h
      · exact .inl h
      · exact .inr (List.mem_append_left _ h)
  has := by
    rcases mem_move h.has with h | h
    · exact .inl h
    · exact .inr (List.mem_append_left _ h)
  keys := fun x v hx => by
    rw [getL_put] at hx
    by_cases hxk : x = (p.1.pl, p.2.pl)
    · exact ⟨p, List.mem_cons_self, hxk⟩
    · rw [if_neg hxk] at hx
      obtain ⟨q, hq, e⟩ := h.keys x v hx
      exact ⟨q, List.mem_cons_of_mem _ hq, e⟩
  vals := fun x v hx => by
    rw [getL_put] at hx
    by_cases hxk : x = (p.1.pl, p.2.pl)
    · rw [if_pos hxk] at hx
      cases hx
      exact ⟨1, rfl, by omega, by show 1 ≤ D.length + 1; omega⟩
    · rw [if_neg hxk] at hx
      obtain ⟨n', e1, e2, e3⟩ := h.vals x v hx
      exact ⟨n', e1, e2, by show n' ≤ D.length + 1; omega⟩
  room := by
    have := h.room
    rw [wsum_append] at this ⊢
    rw [wsum_kids, upTo_len]
    have e : wsum [p] = p.1.F.size + 1 + 0 := rfl
    show D.length + 1 + (wsum S + p.1.F.size) ≤ T
    omega
  lie := fun q hq => by
    rcases hq with hq | hq
    · rcases List.mem_cons.1 hq with rfl | hq
      · exact h.lie q (.inr (by simp))
      · exact h.lie q (.inl hq)
    · rcases List.mem_append.1 hq with hq | hq
      · exact h.lie q (.inr (List.mem_append_left _ hq))
      · obtain ⟨i, hi, rfl⟩ := kidPairs_mem.1 hq
        have hl := h.lie p (.inr (by simp))
        have hlen := ((hsame_iff p).1 hp).2
        exact ⟨In_kid hl.1 hi, In_kid hl.2 (by omega)⟩
end Go.Proofs.Ytmghhcdhjjhbeaa
/- TreeSame of the specification. -/
namespace Go.Proofs.Ytmghhcdhjjhbeaa
open Go.RowKit
end Go.Proofs.Ytmghhcdhjjhbeaa
/- Values: a value put into an object, by the specification: the two regions with three appends each. -/
namespace Go.Proofs.Ytmghhcdhjjhbeaa
open Go.RowKit
theorem textInfo : (Try.prog.info? 9).map (fun i => (i.zero, i.size, i.bytes)) = some (some (.string ⟨#[]⟩), 1, 16) := by kernel_rfl
theorem own_nothing (W : World) (B size : Nat) (e : TypeId) (hB : B ≤ W.heap.size) : (W.alloc (.cells #[] e)).ownsRow B e size (.slice (some ⟨W.heap.size, 0, none⟩) 0 0) 0 [] := World.ownsRow_lit W #[] 0 hB (by unfold maxLen; omega) (by simp)
/-- cells in a block of their own -/
def Own0 (w : World) (B g : Nat) (L : List Value) : Prop := B ≤ g ∧ g < w.heap.size ∧ ∀ i v, L[i]? = some v → w.cell? ⟨g, i, none⟩ = some v
theorem Own0.new (w : World) (B : Nat) (L : List Value) (T : TypeId) (h : B ≤ w.heap.size) : Own0 (w.alloc (.cells L.toArray T)) B w.heap.size L := ⟨h, by simp, fun i v hi => by rw [World.cell?_alloc_new]; simpa using hi⟩
theorem Own0.below {w w' : World} {B g : Nat} {L : List Value} (h : Own0 w B g L) (hb : Below w.heap.size w w') : Own0 w' B g L := ⟨h.1, Nat.lt_of_lt_of_le h.2.1 hb.size, fun i v hi => (hb.cell (p := ⟨g, i, none⟩) h.2.1).trans (h.2.2 i v hi)⟩
theorem Own0.grown {w w' : World} {B g : Nat} {L : List Value} {r : Option Nat} (h : Own0 w B g L) (hg : w.grownBy w' r) (hr : r ≠ some g) : Own0 w' B g L := ⟨h.1, Nat.lt_of_lt_of_le h.2.1 hg.size, fun i v hi => hg.cell (h.2.2 i v hi) (fun e => hr e.symm)⟩
theorem Own0.src {w : World} {B g : Nat} {L : List Value} (h : Own0 w B g L) (m : Nat) : Src w (some ⟨g, 0, none⟩) m L := .inr ⟨_, rfl, fun j u hj => by rw [addr_add, Nat.zero_add]; exact h.2.2 j u hj⟩
theorem own_keep {w w' : World} {base : Nat} {e : TypeId} {size : Nat} {v : Value} {n : Nat} {xs : List Value} (h : w.ownsRow base e size v n xs) (hb : Below w.heap.size w w') : w'.ownsRow base e size v n xs := by
  obtain ⟨h1, h2⟩ := h
  refine ⟨h1, ?_⟩
  rcases h2 with h2 | ⟨g, cap, cur, e1, e2, e3, e4, e5, e6, e7⟩
  · exact .inl h2
  · exact .inr ⟨g, cap, cur, e1, e2, by rw [hb.block g (Array.getElem?_eq_some_iff.1 e3).1]; exact e3, e4, e5, e6, e7⟩
set_option maxRecDepth 100000 in
set_option maxHeartbeats 2000000 in
theorem u8 {Q : Exit → Act → World → Prop} {t0 t1 t2 t3 t5 t7 t8 t9 t12 t13 t14 t15 t16 t17 t18 t19 t20 t21 t22 t23 t24 t25 t26 t27 t28 t29 t30 t31 t32 t33 t34 t35 t36 t37 t38 t39 t40 t41 t42 t43 t44 t45 t46 t47 t48 t49 t50 t51 t52 t53 t54 t55 t56 t57 t58 t59 t60 t61 t62 t63 t64 t65 : Value} {W : World} {vb ob k n : Nat} {na : Option Addr} {nc : Nat} {L : List Value} {xb : Nat} {xh : Hd} {xa : Option Addr} {xn xc : Nat}
    (hnv : ¬ vb = ob) (hv : W.cell? ⟨vb, 4, none⟩ = some (.slice na n nc)) (hL : Lies W na L) (hl : L.length = n * 6) (h1 : ∀ u ∈ L, u.oneCell' = true) (hn : n ≤ nc ∧ nc ≤ maxLen) (hk : k ≤ n) (hN : n ≤ 1100000) (hob : ∃ u, W.cell? ⟨ob, 4, none⟩ = some u) (hof : W.frozen? ⟨ob, 4, none⟩ = false) (hnx : ¬ xb = ob) (hX : Cells6 W xb 0 xh (.slice xa xn xc))
    (hp : ∀ p d v a w, Q (.panic p) (Act.put a d v) w → Q (.panic p) a w) (h : ∀ W1 v' v49 v50 v51 v52 v53 v54 v55 v56 v57 v58 v59 v60 v61 v63, Below W.heap.size W W1 → W1.ownsRow W.heap.size 32 6 v' (n + 1) (L.take (k * 6) ++ (six xh xa xn xc ++ L.drop (k * 6))) → Q .normal { tmps := (t0 :: t1 :: t2 :: t3 :: .pointer (some ⟨vb, 0, none⟩) :: t5 :: .pointer (some ⟨xb, 0, none⟩) :: t7 :: t8 :: t9 :: .int .i64 (k : Nat) :: .pointer (some ⟨ob, 0, none⟩) :: t12 :: t13 :: t14 :: t15 :: t16 :: t17 :: t18 :: t19 :: t20 :: t21 :: t22 :: t23 :: t24 :: t25 :: t26 :: t27 :: t28 :: t29 :: t30 :: t31 :: t32 :: t33 :: t34 :: t35 :: t36 :: t37 :: t38 :: t39 :: t40 :: t41 :: t42 :: t43 :: t44 :: t45 :: t46 :: t47 :: t48 :: v49 :: v50 :: v51 :: v52 :: v53 :: v54 :: v55 :: v56 :: v57 :: v58 :: v59 :: v60 :: v61 :: v' :: v63 :: t64 :: t65 :: []).toArray, defers := [] } (W1.setCell ⟨ob, 4, none⟩ v')) :
    Code.wp Try.prog (Code.region 8 #[{ dst := some 49, op := Op.buildSlice 30 0 #[], type := 30, pos := "l7_value.go:309", after := #[], guard := none }, { dst := some 50, op := Op.fieldAddr 32 (Operand.tmp 4) 3, type := 0, pos := "l7_value.go:309", after := #[], guard := none }, { dst := some 51, op := Op.load 30 (Operand.tmp 50), type := 30, pos := "l7_value.go:309", after := #[{ on := 1, ground := Ground.data }], guard := none }, { dst := some 52, op := Op.move (Operand.tmp 10), type := 3, pos := "l7_value.go:309", after := #[], guard := none }, { dst := some 53, op := Op.slice 30 (Operand.tmp 51) none (some (Operand.tmp 52)) none, type := 30, pos := "l7_value.go:309", after := #[{ on := 2, ground := Ground.data }, { on := 3, ground := Ground.data }], guard := none }, { dst := some 54, op := Op.call { callee := Callee.builtin Builtin.append, args := #[Operand.tmp 49, Operand.tmp 53], argTypes := #[30, 30] }, type := 30, pos := "l7_value.go:309", after := #[{ on := 0, ground := Ground.data }, { on := 4, ground := Ground.data }], guard := none }, { dst := some 55, op := Op.load 32 (Operand.tmp 6), type := 32, pos := "l7_value.go:309", after := #[], guard := none }, { dst := some 56, op := Op.buildSlice 30 1 #[(0, Operand.tmp 55)], type := 30, pos := "l7_value.go:309", after := #[{ on := 6, ground := Ground.data }], guard := none }, { dst := some 57, op := Op.call { callee := Callee.builtin Builtin.append, args := #[Operand.tmp 54, Operand.tmp 56], argTypes := #[30, 30] }, type := 30, pos := "l7_value.go:309", after := #[{ on := 5, ground := Ground.data }, { on := 7, ground := Ground.data }, { on := 5, ground := Ground.chain }], guard := none }, { dst := some 58, op := Op.fieldAddr 32 (Operand.tmp 4) 3, type := 0, pos := "l7_value.go:309", after := #[], guard := none }, { dst := some 59, op := Op.load 30 (Operand.tmp 58), type := 30, pos := "l7_value.go:309", after := #[{ on := 9, ground := Ground.data }], guard := none }, { dst := some 60, op := Op.move (Operand.tmp 10), type := 3, pos := "l7_value.go:309", after := #[], guard := none }, { dst := some 61, op := Op.slice 30 (Operand.tmp 59) (some (Operand.tmp 60)) none none, type := 30, pos := "l7_value.go:309", after := #[{ on := 10, ground := Ground.data }, { on := 11, ground := Ground.data }], guard := none }, { dst := some 62, op := Op.call { callee := Callee.builtin Builtin.append, args := #[Operand.tmp 57, Operand.tmp 61], argTypes := #[30, 30] }, type := 30, pos := "l7_value.go:309", after := #[{ on := 8, ground := Ground.data }, { on := 12, ground := Ground.data }, { on := 8, ground := Ground.chain }], guard := none }, { dst := some 63, op := Op.fieldAddr 32 (Operand.tmp 11) 3, type := 0, pos := "l7_value.go:309", after := #[{ on := 0, ground := Ground.phase }, { on := 1, ground := Ground.phase }, { on := 2, ground := Ground.phase }, { on := 3, ground := Ground.phase }, { on := 4, ground := Ground.phase }, { on := 5, ground := Ground.phase }, { on := 6, ground := Ground.phase }, { on := 7, ground := Ground.phase }, { on := 8, ground := Ground.phase }, { on := 9, ground := Ground.phase }, { on := 10, ground := Ground.phase }, { on := 11, ground := Ground.phase }, { on := 12, ground := Ground.phase }, { on := 13, ground := Ground.phase }], guard := none }, { dst := none, op := Op.store 30 (Operand.tmp 63) (Operand.tmp 62), type := 0, pos := "l7_value.go:309", after := #[{ on := 14, ground := Ground.data }, { on := 13, ground := Ground.data }, { on := 13, ground := Ground.chain }, { on := 0, ground := Ground.phase }, { on := 1, ground := Ground.phase }, { on := 2, ground := Ground.phase }, { on := 3, ground := Ground.phase }, { on := 4, ground := Ground.phase }, { on := 5, ground := Ground.phase }, { on := 6, ground := Ground.phase }, { on := 7, ground := Ground.phase }, { on := 8, ground := Ground.phase }, { on := 9, ground := Ground.phase }, { on := 10, ground := Ground.phase }, { on := 11, ground := Ground.phase }, { on := 12, ground := Ground.phase }, { on := 13, ground := Ground.phase }], guard := none }] true) Q { tmps := (t0 :: t1 :: t2 :: t3 :: .pointer (some ⟨vb, 0, none⟩) :: t5 :: .pointer (some ⟨xb, 0, none⟩) :: t7 :: t8 :: t9 :: .int .i64 (k : Nat) :: .pointer (some ⟨ob, 0, none⟩) :: t12 :: t13 :: t14 :: t15 :: t16 :: t17 :: t18 :: t19 :: t20 :: t21 :: t22 :: t23 :: t24 :: t25 :: t26 :: t27 :: t28 :: t29 :: t30 :: t31 :: t32 :: t33 :: t34 :: t35 :: t36 :: t37 :: t38 :: t39 :: t40 :: t41 :: t42 :: t43 :: t44 :: t45 :: t46 :: t47 :: t48 :: t49 :: t50 :: t51 :: t52 :: t53 :: t54 :: t55 :: t56 :: t57 :: t58 :: t59 :: t60 :: t61 :: t62 :: t63 :: t64 :: t65 :: []).toArray, defers := [] } W := by
  obtain ⟨i0, hi, hz0, hz1, hz2⟩ := info_parts valInfo
  obtain ⟨hn1, hn2⟩ := hn
  unfold maxLen at hn2
  have hvl := World.block_lt_of_cell? W _ hv
  obtain ⟨ou, hou⟩ := hob
  have hol := World.block_lt_of_cell? W _ hou
  have hxl := hX.lt
  have HV : Hid (∀ w', Below W.heap.size W w' → w'.cell? ⟨vb, 4, none⟩ = some (.slice na n nc)) := fun w' h => (h.cell (p := ⟨vb, 4, none⟩) hvl).trans hv
  have HO : Hid (∀ w', Below W.heap.size W w' → w'.cell? ⟨ob, 4, none⟩ = some ou ∧ w'.frozen? ⟨ob, 4, none⟩ = false) := fun w' h => ⟨(h.cell (p := ⟨ob, 4, none⟩) hol).trans hou, (h.frozen (p := ⟨ob, 4, none⟩) hol).trans hof⟩
  have HX : Hid (∀ w', Below W.heap.size W w' → Cells6 w' xb 0 xh (.slice xa xn xc)) := fun w' h => hX.mono fun o u hu => (h.cell (p := ⟨xb, o, none⟩) hxl).trans hu
  have HT : Hid (∀ w', Below W.heap.size W w' → Src w' na k (L.take (k * 6))) := fun w' h => Lies.take0 (hL.grow h) hl (by omega) k hk
  have HD : Hid (∀ w', Below W.heap.size W w' → Src w' (if nc = k then na else na.map (fun x => x.add (k * 6))) (n - k) (L.drop (k * 6))) := fun w' h => by have := Lies.drop (hL.grow h) hl (by omega) k nc hn1; simpa using this
  have HL : Hid ((L.take (k * 6)).length = k * 6 ∧ (L.drop (k * 6)).length = (n - k) * 6) := ⟨by rw [List.length_take, hl]; exact Nat.min_eq_left (Nat.mul_le_mul_right _ hk), by rw [List.length_drop, hl, Nat.sub_mul]⟩
  have H1 : Hid ((∀ u ∈ L.take (k * 6), u.oneCell' = true) ∧ (∀ u ∈ L.drop (k * 6), u.oneCell' = true)) := ⟨fun u hu => h1 u (List.mem_of_mem_take hu), fun u hu => h1 u (List.mem_of_mem_drop hu)⟩
  clear hv hL hl h1 hou hof hX
  have HS : Hid (∀ w', Below W.heap.size W w' → (w'.cell? ⟨vb, 4, none⟩ = some (.slice na n nc) ∧ Cells6 w' xb 0 xh (.slice xa xn xc))) := fun w' h => ⟨HV.out w' h, HX.out w' h⟩
  have hB0 : Below W.heap.size W W.drew := (Below.refl _ W).drew
  have hS0 := HS.out _ hB0
  refine wp_region_held_drew (S := fun w' => w'.cell? ⟨vb, 4, none⟩ = some (.slice na n nc) ∧ Cells6 w' xb 0 xh (.slice xa xn xc)) (by kernel_rfl) hS0 (fun hHeld => ?_)
  generalize W.drew = Wd at *
  refine wpAnyH_take (i := 1) (v := .pointer (some ⟨vb, 4, none⟩)) rfl (by kernel_rfl) (by kernel_rfl) (by kernel_rfl) (fun _ _ _ h => hp _ _ _ _ _ h) (Or.inl ⟨by rfl, ?_⟩) (by assumption) ?_
  · intro w hSw
    (try dsimp only at hSw)
    go_simp
  (try simp only [Act.put, List.getElem_toArray, List.getElem_cons_zero, List.getElem_cons_succ, List.setIfInBounds_toArray, List.set_cons_zero, List.set_cons_succ])
  refine wpAnyH_take (i := 2) (v := .slice na n nc) rfl (by kernel_rfl) (by kernel_rfl) (by kernel_rfl) (fun _ _ _ h => hp _ _ _ _ _ h) (Or.inl ⟨by rfl, ?_⟩) (by assumption) ?_
  · intro w hSw
    (try dsimp only at hSw)
    (obtain ⟨hSv, hX0, hX1, hX2, hX3, hX4, hX5⟩ := hSw; go_simp)
  (try simp only [Act.put, List.getElem_toArray, List.getElem_cons_zero, List.getElem_cons_succ, List.setIfInBounds_toArray, List.set_cons_zero, List.set_cons_succ])
  refine wpAnyH_take (i := 3) (v := .int .i64 (k : Nat)) rfl (by kernel_rfl) (by kernel_rfl) (by kernel_rfl) (fun _ _ _ h => hp _ _ _ _ _ h) (Or.inl ⟨by rfl, ?_⟩) (by assumption) ?_
  · intro w hSw
    (try dsimp only at hSw)
    go_simp
  (try simp only [Act.put, List.getElem_toArray, List.getElem_cons_zero, List.getElem_cons_succ, List.setIfInBounds_toArray, List.set_cons_zero, List.set_cons_succ])
  refine wpAnyH_take (i := 4) (v := .slice na k nc) rfl (by kernel_rfl) (by kernel_rfl) (by kernel_rfl) (fun _ _ _ h => hp _ _ _ _ _ h) (Or.inl ⟨by rfl, ?_⟩) (by assumption) ?_
  · intro w hSw
    (try dsimp only at hSw)
    (go_simp <;> first | done | omega | (simp [sliced]; omega) | simp [sliced])
  (try simp only [Act.put, List.getElem_toArray, List.getElem_cons_zero, List.getElem_cons_succ, List.setIfInBounds_toArray, List.set_cons_zero, List.set_cons_succ])
  refine wpAnyH_take (i := 6) (v := valV xh xa xn xc) rfl (by kernel_rfl) (by kernel_rfl) (by kernel_rfl) (fun _ _ _ h => hp _ _ _ _ _ h) (Or.inl ⟨by rfl, ?_⟩) (by assumption) ?_
  · intro w hSw
    (try dsimp only at hSw)
    (obtain ⟨hSv, hX0, hX1, hX2, hX3, hX4, hX5⟩ := hSw; go_simp)
  (try simp only [Act.put, List.getElem_toArray, List.getElem_cons_zero, List.getElem_cons_succ, List.setIfInBounds_toArray, List.set_cons_zero, List.set_cons_succ])
  refine wpAnyH_take (i := 9) (v := .pointer (some ⟨vb, 4, none⟩)) rfl (by kernel_rfl) (by kernel_rfl) (by kernel_rfl) (fun _ _ _ h => hp _ _ _ _ _ h) (Or.inl ⟨by rfl, ?_⟩) (by assumption) ?_
  · intro w hSw
    (try dsimp only at hSw)
    go_simp
  (try simp only [Act.put, List.getElem_toArray, List.getElem_cons_zero, List.getElem_cons_succ, List.setIfInBounds_toArray, List.set_cons_zero, List.set_cons_succ])
  refine wpAnyH_take (i := 10) (v := .slice na n nc) rfl (by kernel_rfl) (by kernel_rfl) (by kernel_rfl) (fun _ _ _ h => hp _ _ _ _ _ h) (Or.inl ⟨by rfl, ?_⟩) (by assumption) ?_
  · intro w hSw
    (try dsimp only at hSw)
    (obtain ⟨hSv, hX0, hX1, hX2, hX3, hX4, hX5⟩ := hSw; go_simp)
  (try simp only [Act.put, List.getElem_toArray, List.getElem_cons_zero, List.getElem_cons_succ, List.setIfInBounds_toArray, List.set_cons_zero, List.set_cons_succ])
  refine wpAnyH_take (i := 11) (v := .int .i64 (k : Nat)) rfl (by kernel_rfl) (by kernel_rfl) (by kernel_rfl) (fun _ _ _ h => hp _ _ _ _ _ h) (Or.inl ⟨by rfl, ?_⟩) (by assumption) ?_
  · intro w hSw
    (try dsimp only at hSw)
    go_simp
  (try simp only [Act.put, List.getElem_toArray, List.getElem_cons_zero, List.getElem_cons_succ, List.setIfInBounds_toArray, List.set_cons_zero, List.set_cons_succ])
  refine wpAnyH_take (i := 12) (v := .slice (if nc = k then na else na.map (fun x => x.add (k * 6))) (n - k) (nc - k)) rfl (by kernel_rfl) (by kernel_rfl) (by kernel_rfl) (fun _ _ _ h => hp _ _ _ _ _ h) (Or.inl ⟨by rfl, ?_⟩) (by assumption) ?_
  · intro w hSw
    (try dsimp only at hSw)
    (go_simp <;> first | done | omega | (simp [sliced]; omega) | simp [sliced])
  (try simp only [Act.put, List.getElem_toArray, List.getElem_cons_zero, List.getElem_cons_succ, List.setIfInBounds_toArray, List.set_cons_zero, List.set_cons_succ])
  clear hS0 hHeld
  refine wpAnyH_ready (rs := [0, 7]) (by kernel_rfl) (by simp) ?_
  refine AllReadyH.cons rfl (fun K hK => ?_) (AllReadyH.cons rfl (fun K hK => ?_) AllReadyH.nil)
  · skip
    go_simp
    obtain ⟨g0, hg0⟩ : ∃ g, Wd.heap.size = g := ⟨_, rfl⟩
    have hz0 := hB0.size
    have hown := own_nothing Wd W.heap.size 6 32 hB0.size
    have hB1 := hB0.alloc hB0.size (.cells #[] 32)
    refine hK.out _ _ (HS.out _ hB1) (fun hHeld => ?_)
    clear hK K hHeld hB0
    have hB0 := hB1
    clear hB1
    rw [hg0] at hown ⊢
    obtain ⟨vo, hvo⟩ : ∃ vo, vo = Value.slice (some ⟨g0, 0, none⟩) 0 0 := ⟨_, rfl⟩
    rw [← hvo] at hown ⊢
    clear hvo
    generalize Wd.alloc (.cells #[] 32) = W85 at *
    clear hg0 hz0
    refine wpAnyH_ready (rs := [5, 7]) (by kernel_rfl) (by simp) ?_
    refine AllReadyH.cons rfl (fun K hK => ?_) (AllReadyH.cons rfl (fun K hK => ?_) AllReadyH.nil)
    · skip
      refine wp_append_lie W85 _ _ 30 rfl W.heap.size 32 i0 _ 6 88 Try.underlying30 hi hz0 hz1 hz2 rfl (by decide) vo 0 [] rfl hown na k nc (L.take (k * 6)) rfl HL.out.1 (HT.out _ hB0) H1.out.1 (by unfold maxLen; omega) (by omega) hB0.size ?_
      intro vo2 W90 hown2 hgr hbl
      have hB1 := below_grown hB0 hown hgr hB0.size
      refine hK.out _ _ (HS.out _ hB1) (fun hHeld => ?_)
      clear hK K hHeld hB0 hown hgr hbl
      have hB0 := hB1
      clear hB1
      have hown := hown2
      clear hown2
      (try simp only [Act.put, List.getElem_toArray, List.getElem_cons_zero, List.getElem_cons_succ, List.setIfInBounds_toArray, List.set_cons_zero, List.set_cons_succ])
      rw [List.nil_append, Nat.zero_add] at hown
      skip
      refine wpAnyH_ready (rs := [7]) (by kernel_rfl) (by simp) ?_
      refine AllReadyH.cons rfl (fun K hK => ?_) AllReadyH.nil
      go_simp
      obtain ⟨g7, hg7⟩ : ∃ g, W90.heap.size = g := ⟨_, rfl⟩
      have hel : Own0 (W90.alloc (.cells #[.int .i64 xh.k, .int .i64 xh.m, .int .i64 xh.e, .string xh.t, .slice xa xn xc, .slice xh.na xh.ns.length xh.nc] 32)) W.heap.size W90.heap.size (six xh xa xn xc) := Own0.new W90 W.heap.size [.int .i64 xh.k, .int .i64 xh.m, .int .i64 xh.e, .string xh.t, .slice xa xn xc, .slice xh.na xh.ns.length xh.nc] 32 hB0.size
      have hown2 := own_keep hown ((Below.refl _ W90).alloc (Nat.le_refl _) (.cells #[.int .i64 xh.k, .int .i64 xh.m, .int .i64 xh.e, .string xh.t, .slice xa xn xc, .slice xh.na xh.ns.length xh.nc] 32))
      have hne : ∀ r, Value.ownBlock vo2 = some r → r ≠ g7 := fun r hr => by have := (hown.lt r hr).2; omega
      clear hown
      have hown := hown2
      clear hown2
      have hB1 := hB0.alloc hB0.size (.cells #[.int .i64 xh.k, .int .i64 xh.m, .int .i64 xh.e, .string xh.t, .slice xa xn xc, .slice xh.na xh.ns.length xh.nc] 32)
      refine hK.out _ _ (HS.out _ hB1) (fun hHeld => ?_)
      clear hK K hHeld hB0
      have hB0 := hB1
      clear hB1
      rw [hg7] at hel ⊢
      generalize W90.alloc (.cells #[.int .i64 xh.k, .int .i64 xh.m, .int .i64 xh.e, .string xh.t, .slice xa xn xc, .slice xh.na xh.ns.length xh.nc] 32) = W106 at *
      clear hg7
      refine wpAnyH_ready (rs := [8]) (by kernel_rfl) (by simp) ?_
      refine AllReadyH.cons rfl (fun K hK => ?_) AllReadyH.nil
      refine wp_append_lie W106 _ _ 30 rfl W.heap.size 32 i0 _ 6 88 Try.underlying30 hi hz0 hz1 hz2 rfl (by decide) vo2 k _ rfl hown (some ⟨g7, 0, none⟩) 1 1 (six xh xa xn xc) rfl rfl (hel.src 1) (six_one) (by unfold maxLen; omega) (by omega) hB0.size ?_
      intro vo3 W120 hown2 hgr _
      have hB1 := below_grown hB0 hown hgr hB0.size
      refine hK.out _ _ (HS.out _ hB1) (fun hHeld => ?_)
      clear hK K hHeld hB0 hown hgr hel hne
      have hB0 := hB1
      clear hB1
      have hown := hown2
      clear hown2
      (try simp only [Act.put, List.getElem_toArray, List.getElem_cons_zero, List.getElem_cons_succ, List.setIfInBounds_toArray, List.set_cons_zero, List.set_cons_succ])
      refine wpAnyH_ready (rs := [13]) (by kernel_rfl) (by simp) ?_
      refine AllReadyH.cons rfl (fun K hK => ?_) AllReadyH.nil
      refine wp_append_lie W120 _ _ 30 rfl W.heap.size 32 i0 _ 6 88 Try.underlying30 hi hz0 hz1 hz2 rfl (by decide) vo3 (k + 1) _ rfl hown (if nc = k then na else na.map (fun x => x.add (k * 6))) (n - k) (nc - k) (L.drop (k * 6)) rfl HL.out.2 (HD.out _ hB0) H1.out.2 (by unfold maxLen; omega) (by omega) hB0.size ?_
      intro v' W120b hown2 hgr _
      have hB1 := below_grown hB0 hown hgr hB0.size
      refine hK.out _ _ (HS.out _ hB1) (fun hHeld => ?_)
      clear hK K hB0 hown hgr
      (try simp only [Act.put, List.getElem_toArray, List.getElem_cons_zero, List.getElem_cons_succ, List.setIfInBounds_toArray, List.set_cons_zero, List.set_cons_succ])
      refine wpAnyH_take (i := 14) (v := .pointer (some ⟨ob, 4, none⟩)) rfl (by kernel_rfl) (by kernel_rfl) (by kernel_rfl) (fun _ _ _ h => hp _ _ _ _ _ h) (Or.inl ⟨by rfl, ?_⟩) (by assumption) ?_
      · intro w hSw
        (try dsimp only at hSw)
        go_simp
      (try simp only [Act.put, List.getElem_toArray, List.getElem_cons_zero, List.getElem_cons_succ, List.setIfInBounds_toArray, List.set_cons_zero, List.set_cons_succ])
      obtain ⟨hoc, hofz⟩ := HO.out _ hB1
      rw [show k + 1 + (n - k) = n + 1 by omega, List.append_assoc] at hown2
      obtain ⟨g9, c9, rfl, _, _⟩ := hown2.form (by omega)
      refine wpAnyH_ready (rs := [15]) (by kernel_rfl) (by simp) ?_
      refine AllReadyH.cons rfl (fun K hK => ?_) AllReadyH.nil
      go_simp
      refine hK.out _ _ ?_ (fun hHeld => ?_)
      · exact ⟨(World.cell?_setCell_other _ _ _ _ (fun e => hnv (by simpa using congrArg Addr.block e.symm))).trans (HV.out _ hB1), (HX.out _ hB1).mono fun o u hu => (World.cell?_setCell_other _ _ _ _ (fun e => hnx (by simpa using congrArg Addr.block e.symm))).trans (hu)⟩
      refine wpAnyH_done (by kernel_rfl) ?_ _
      exact h _ _ _ _ _ _ _ _ _ _ _ _ _ _ _ _ hB1 hown2
    · skip
      go_simp
      obtain ⟨g7, hg7⟩ : ∃ g, W85.heap.size = g := ⟨_, rfl⟩
      have hz7 := hB0.size
      have hel : Own0 (W85.alloc (.cells #[.int .i64 xh.k, .int .i64 xh.m, .int .i64 xh.e, .string xh.t, .slice xa xn xc, .slice xh.na xh.ns.length xh.nc] 32)) W.heap.size W85.heap.size (six xh xa xn xc) := Own0.new W85 W.heap.size [.int .i64 xh.k, .int .i64 xh.m, .int .i64 xh.e, .string xh.t, .slice xa xn xc, .slice xh.na xh.ns.length xh.nc] 32 hB0.size
      have hown2 := own_keep hown ((Below.refl _ W85).alloc (Nat.le_refl _) (.cells #[.int .i64 xh.k, .int .i64 xh.m, .int .i64 xh.e, .string xh.t, .slice xa xn xc, .slice xh.na xh.ns.length xh.nc] 32))
      have hne : ∀ r, Value.ownBlock vo = some r → r ≠ g7 := fun r hr => by have := (hown.lt r hr).2; omega
      clear hown
      have hown := hown2
      clear hown2
      have hB1 := hB0.alloc hB0.size (.cells #[.int .i64 xh.k, .int .i64 xh.m, .int .i64 xh.e, .string xh.t, .slice xa xn xc, .slice xh.na xh.ns.length xh.nc] 32)
      refine hK.out _ _ (HS.out _ hB1) (fun hHeld => ?_)
      clear hK K hHeld hB0
      have hB0 := hB1
      clear hB1
      rw [hg7] at hel ⊢
      generalize W85.alloc (.cells #[.int .i64 xh.k, .int .i64 xh.m, .int .i64 xh.e, .string xh.t, .slice xa xn xc, .slice xh.na xh.ns.length xh.nc] 32) = W171 at *
      clear hg7 hz7
      refine wpAnyH_ready (rs := [5]) (by kernel_rfl) (by simp) ?_
      refine AllReadyH.cons rfl (fun K hK => ?_) AllReadyH.nil
      refine wp_append_lie W171 _ _ 30 rfl W.heap.size 32 i0 _ 6 88 Try.underlying30 hi hz0 hz1 hz2 rfl (by decide) vo 0 [] rfl hown na k nc (L.take (k * 6)) rfl HL.out.1 (HT.out _ hB0) H1.out.1 (by unfold maxLen; omega) (by omega) hB0.size ?_
      intro vo2 W175 hown2 hgr hbl
      have hB1 := below_grown hB0 hown hgr hB0.size
      have hel2 := hel.grown hgr (fun e => hne _ e rfl)
      have hne2 : ∀ r, Value.ownBlock vo2 = some r → r ≠ g7 := fun r hr => by
        rcases hbl with hbl | hbl
        · exact hne r (hbl ▸ hr)
        · rw [hbl] at hr; cases hr; have := hel.2.1; omega
      refine hK.out _ _ (HS.out _ hB1) (fun hHeld => ?_)
      clear hK K hHeld hB0 hown hgr hbl hne hel
      have hB0 := hB1
      clear hB1
      have hown := hown2
      clear hown2
      (try simp only [Act.put, List.getElem_toArray, List.getElem_cons_zero, List.getElem_cons_succ, List.setIfInBounds_toArray, List.set_cons_zero, List.set_cons_succ])
      have hel := hel2
      have hne := hne2
      clear hel2 hne2
      rw [List.nil_append, Nat.zero_add] at hown
      skip
      refine wpAnyH_ready (rs := [8]) (by kernel_rfl) (by simp) ?_
      refine AllReadyH.cons rfl (fun K hK => ?_) AllReadyH.nil
      refine wp_append_lie W175 _ _ 30 rfl W.heap.size 32 i0 _ 6 88 Try.underlying30 hi hz0 hz1 hz2 rfl (by decide) vo2 k _ rfl hown (some ⟨g7, 0, none⟩) 1 1 (six xh xa xn xc) rfl rfl (hel.src 1) (six_one) (by unfold maxLen; omega) (by omega) hB0.size ?_
      intro vo3 W195 hown2 hgr _
      have hB1 := below_grown hB0 hown hgr hB0.size
      refine hK.out _ _ (HS.out _ hB1) (fun hHeld => ?_)
      clear hK K hHeld hB0 hown hgr hel hne
      have hB0 := hB1
      clear hB1
      have hown := hown2
      clear hown2
      (try simp only [Act.put, List.getElem_toArray, List.getElem_cons_zero, List.getElem_cons_succ, List.setIfInBounds_toArray, List.set_cons_zero, List.set_cons_succ])
      refine wpAnyH_ready (rs := [13]) (by kernel_rfl) (by simp) ?_
      refine AllReadyH.cons rfl (fun K hK => ?_) AllReadyH.nil
      refine wp_append_lie W195 _ _ 30 rfl W.heap.size 32 i0 _ 6 88 Try.underlying30 hi hz0 hz1 hz2 rfl (by decide) vo3 (k + 1) _ rfl hown (if nc = k then na else na.map (fun x => x.add (k * 6))) (n - k) (nc - k) (L.drop (k * 6)) rfl HL.out.2 (HD.out _ hB0) H1.out.2 (by unfold maxLen; omega) (by omega) hB0.size ?_
      intro v' W195b hown2 hgr _
      have hB1 := below_grown hB0 hown hgr hB0.size
      refine hK.out _ _ (HS.out _ hB1) (fun hHeld => ?_)
      clear hK K hB0 hown hgr
      (try simp only [Act.put, List.getElem_toArray, List.getElem_cons_zero, List.getElem_cons_succ, List.setIfInBounds_toArray, List.set_cons_zero, List.set_cons_succ])
      refine wpAnyH_take (i := 14) (v := .pointer (some ⟨ob, 4, none⟩)) rfl (by kernel_rfl) (by kernel_rfl) (by kernel_rfl) (fun _ _ _ h => hp _ _ _ _ _ h) (Or.inl ⟨by rfl, ?_⟩) (by assumption) ?_
      · intro w hSw
        (try dsimp only at hSw)
        go_simp
      (try simp only [Act.put, List.getElem_toArray, List.getElem_cons_zero, List.getElem_cons_succ, List.setIfInBounds_toArray, List.set_cons_zero, List.set_cons_succ])
      obtain ⟨hoc, hofz⟩ := HO.out _ hB1
      rw [show k + 1 + (n - k) = n + 1 by omega, List.append_assoc] at hown2
      obtain ⟨g9, c9, rfl, _, _⟩ := hown2.form (by omega)
      refine wpAnyH_ready (rs := [15]) (by kernel_rfl) (by simp) ?_
      refine AllReadyH.cons rfl (fun K hK => ?_) AllReadyH.nil
      go_simp
      refine hK.out _ _ ?_ (fun hHeld => ?_)
      · exact ⟨(World.cell?_setCell_other _ _ _ _ (fun e => hnv (by simpa using congrArg Addr.block e.symm))).trans (HV.out _ hB1), (HX.out _ hB1).mono fun o u hu => (World.cell?_setCell_other _ _ _ _ (fun e => hnx (by simpa using congrArg Addr.block e.symm))).trans (hu)⟩
      refine wpAnyH_done (by kernel_rfl) ?_ _
      exact h _ _ _ _ _ _ _ _ _ _ _ _ _ _ _ _ hB1 hown2
  · skip
    go_simp
    obtain ⟨g7, hg7⟩ : ∃ g, Wd.heap.size = g := ⟨_, rfl⟩
    have hz7 := hB0.size
    have hel : Own0 (Wd.alloc (.cells #[.int .i64 xh.k, .int .i64 xh.m, .int .i64 xh.e, .string xh.t, .slice xa xn xc, .slice xh.na xh.ns.length xh.nc] 32)) W.heap.size Wd.heap.size (six xh xa xn xc) := Own0.new Wd W.heap.size [.int .i64 xh.k, .int .i64 xh.m, .int .i64 xh.e, .string xh.t, .slice xa xn xc, .slice xh.na xh.ns.length xh.nc] 32 hB0.size
    have hB1 := hB0.alloc hB0.size (.cells #[.int .i64 xh.k, .int .i64 xh.m, .int .i64 xh.e, .string xh.t, .slice xa xn xc, .slice xh.na xh.ns.length xh.nc] 32)
    refine hK.out _ _ (HS.out _ hB1) (fun hHeld => ?_)
    clear hK K hHeld hB0
    have hB0 := hB1
    clear hB1
    rw [hg7] at hel ⊢
    generalize Wd.alloc (.cells #[.int .i64 xh.k, .int .i64 xh.m, .int .i64 xh.e, .string xh.t, .slice xa xn xc, .slice xh.na xh.ns.length xh.nc] 32) = W241 at *
    clear hg7 hz7
    refine wpAnyH_ready (rs := [0]) (by kernel_rfl) (by simp) ?_
    refine AllReadyH.cons rfl (fun K hK => ?_) AllReadyH.nil
    go_simp
    obtain ⟨g0, hg0⟩ : ∃ g, W241.heap.size = g := ⟨_, rfl⟩
    have hz0 := hB0.size
    have hown := own_nothing W241 W.heap.size 6 32 hB0.size
    have hel2 := hel.below ((Below.refl _ W241).alloc (Nat.le_refl _) (.cells #[] 32))
    have hne : ∀ r, Value.ownBlock (.slice (some ⟨W241.heap.size, 0, none⟩) 0 0) = some r → r ≠ g7 := fun r hr => by simp [Value.ownBlock] at hr; have := hel.2.1; omega
    clear hel
    have hel := hel2
    clear hel2
    have hB1 := hB0.alloc hB0.size (.cells #[] 32)
    refine hK.out _ _ (HS.out _ hB1) (fun hHeld => ?_)
    clear hK K hHeld hB0
    have hB0 := hB1
    clear hB1
    rw [hg0] at hown hne ⊢
    obtain ⟨vo, hvo⟩ : ∃ vo, vo = Value.slice (some ⟨g0, 0, none⟩) 0 0 := ⟨_, rfl⟩
    rw [← hvo] at hown hne ⊢
    clear hvo
    generalize W241.alloc (.cells #[] 32) = W263 at *
    clear hg0 hz0
    refine wpAnyH_ready (rs := [5]) (by kernel_rfl) (by simp) ?_
    refine AllReadyH.cons rfl (fun K hK => ?_) AllReadyH.nil
    refine wp_append_lie W263 _ _ 30 rfl W.heap.size 32 i0 _ 6 88 Try.underlying30 hi hz0 hz1 hz2 rfl (by decide) vo 0 [] rfl hown na k nc (L.take (k * 6)) rfl HL.out.1 (HT.out _ hB0) H1.out.1 (by unfold maxLen; omega) (by omega) hB0.size ?_
    intro vo2 W267 hown2 hgr hbl
    have hB1 := below_grown hB0 hown hgr hB0.size
    have hel2 := hel.grown hgr (fun e => hne _ e rfl)
    have hne2 : ∀ r, Value.ownBlock vo2 = some r → r ≠ g7 := fun r hr => by
      rcases hbl with hbl | hbl
      · exact hne r (hbl ▸ hr)
      · rw [hbl] at hr; cases hr; have := hel.2.1; omega
    refine hK.out _ _ (HS.out _ hB1) (fun hHeld => ?_)
    clear hK K hHeld hB0 hown hgr hbl hne hel
    have hB0 := hB1
    clear hB1
    have hown := hown2
    clear hown2
    (try simp only [Act.put, List.getElem_toArray, List.getElem_cons_zero, List.getElem_cons_succ, List.setIfInBounds_toArray, List.set_cons_zero, List.set_cons_succ])
    have hel := hel2
    have hne := hne2
    clear hel2 hne2
    rw [List.nil_append, Nat.zero_add] at hown
    skip
    refine wpAnyH_ready (rs := [8]) (by kernel_rfl) (by simp) ?_
    refine AllReadyH.cons rfl (fun K hK => ?_) AllReadyH.nil
    refine wp_append_lie W267 _ _ 30 rfl W.heap.size 32 i0 _ 6 88 Try.underlying30 hi hz0 hz1 hz2 rfl (by decide) vo2 k _ rfl hown (some ⟨g7, 0, none⟩) 1 1 (six xh xa xn xc) rfl rfl (hel.src 1) (six_one) (by unfold maxLen; omega) (by omega) hB0.size ?_
    intro vo3 W287 hown2 hgr _
    have hB1 := below_grown hB0 hown hgr hB0.size
    refine hK.out _ _ (HS.out _ hB1) (fun hHeld => ?_)
    clear hK K hHeld hB0 hown hgr hel hne
    have hB0 := hB1
    clear hB1
    have hown := hown2
    clear hown2
    (try simp only [Act.put, List.getElem_toArray, List.getElem_cons_zero, List.getElem_cons_succ, List.setIfInBounds_toArray, List.set_cons_zero, List.set_cons_succ])
    refine wpAnyH_ready (rs := [13]) (by kernel_rfl) (by simp) ?_
    refine AllReadyH.cons rfl (fun K hK => ?_) AllReadyH.nil
    refine wp_append_lie W287 _ _ 30 rfl W.heap.size 32 i0 _ 6 88 Try.underlying30 hi hz0 hz1 hz2 rfl (by decide) vo3 (k + 1) _ rfl hown (if nc = k then na else na.map (fun x => x.add (k * 6))) (n - k) (nc - k) (L.drop (k * 6)) rfl HL.out.2 (HD.out _ hB0) H1.out.2 (by unfold maxLen; omega) (by omega) hB0.size ?_
    intro v' W287b hown2 hgr _
    have hB1 := below_grown hB0 hown hgr hB0.size
    refine hK.out _ _ (HS.out _ hB1) (fun hHeld => ?_)
    clear hK K hB0 hown hgr
    (try simp only [Act.put, List.getElem_toArray, List.getElem_cons_zero, List.getElem_cons_succ, List.setIfInBounds_toArray, List.set_cons_zero, List.set_cons_succ])
    refine wpAnyH_take (i := 14) (v := .pointer (some ⟨ob, 4, none⟩)) rfl (by kernel_rfl) (by kernel_rfl) (by kernel_rfl) (fun _ _ _ h => hp _ _ _ _ _ h) (Or.inl ⟨by rfl, ?_⟩) (by assumption) ?_
    · intro w hSw
      (try dsimp only at hSw)
      go_simp
    (try simp only [Act.put, List.getElem_toArray, List.getElem_cons_zero, List.getElem_cons_succ, List.setIfInBounds_toArray, List.set_cons_zero, List.set_cons_succ])
    obtain ⟨hoc, hofz⟩ := HO.out _ hB1
    rw [show k + 1 + (n - k) = n + 1 by omega, List.append_assoc] at hown2
    obtain ⟨g9, c9, rfl, _, _⟩ := hown2.form (by omega)
    refine wpAnyH_ready (rs := [15]) (by kernel_rfl) (by simp) ?_
    refine AllReadyH.cons rfl (fun K hK => ?_) AllReadyH.nil
    go_simp
    refine hK.out _ _ ?_ (fun hHeld => ?_)
    · exact ⟨(World.cell?_setCell_other _ _ _ _ (fun e => hnv (by simpa using congrArg Addr.block e.symm))).trans (HV.out _ hB1), (HX.out _ hB1).mono fun o u hu => (World.cell?_setCell_other _ _ _ _ (fun e => hnx (by simpa using congrArg Addr.block e.symm))).trans (hu)⟩
    refine wpAnyH_done (by kernel_rfl) ?_ _
    exact h _ _ _ _ _ _ _ _ _ _ _ _ _ _ _ _ hB1 hown2
end Go.Proofs.Ytmghhcdhjjhbeaa
/- A text put among others, by the specification: the region with three appends. -/
namespace Go.Proofs.Ytmghhcdhjjhbeaa
open Go.RowKit
set_option maxRecDepth 100000 in
set_option maxHeartbeats 2000000 in
theorem lp6 {Q : Exit → Act → World → Prop} {t2 t3 t4 t6 t7 t8 t9 t10 t11 t12 t13 t14 t15 t16 t17 t18 t19 t20 t21 t22 t23 t24 t25 t26 t27 t28 t29 t30 t31 t32 t33 t34 t35 t36 t37 t38 t39 t40 t41 t42 t43 t44 : Value} {W : World} {k n : Nat} {na : Option Addr} {nc : Nat} {L : List Value} {s : ByteArray}
    (hL : Lies W na L) (hl : L.length = n * 1) (h1 : ∀ u ∈ L, u.oneCell' = true) (hn : n ≤ nc ∧ nc ≤ maxLen) (hk : k ≤ n) (hN : n ≤ 1100000)
    (hp : ∀ p d v a w, Q (.panic p) (Act.put a d v) w → Q (.panic p) a w) (h : ∀ W1 v' v33 v34 v35 v36 v37 v38 v39 v40 v41 v42 v43, Below W.heap.size W W1 → W1.ownsRow W.heap.size 9 1 v' (n + 1) (L.take (k * 1) ++ ([Value.string s] ++ L.drop (k * 1))) → Q .normal { tmps := (.slice na n nc :: .string s :: t2 :: t3 :: v' :: .int .i64 (k : Nat) :: t6 :: t7 :: t8 :: t9 :: t10 :: t11 :: t12 :: t13 :: t14 :: t15 :: t16 :: t17 :: t18 :: t19 :: t20 :: t21 :: t22 :: t23 :: t24 :: t25 :: t26 :: t27 :: t28 :: t29 :: t30 :: t31 :: t32 :: v33 :: v34 :: v35 :: v36 :: v37 :: v38 :: v39 :: v40 :: v41 :: v42 :: v43 :: v' :: []).toArray, defers := [] } W1) :
    Code.wp Try.prog (Code.region 6 #[{ dst := some 33, op := Op.buildSlice 25 0 #[], type := 25, pos := "l6_scope.go:14", after := #[], guard := none }, { dst := some 34, op := Op.move (Operand.tmp 0), type := 25, pos := "l6_scope.go:14", after := #[], guard := none }, { dst := some 35, op := Op.move (Operand.tmp 5), type := 3, pos := "l6_scope.go:14", after := #[], guard := none }, { dst := some 36, op := Op.slice 25 (Operand.tmp 34) none (some (Operand.tmp 35)) none, type := 25, pos := "l6_scope.go:14", after := #[{ on := 1, ground := Ground.data }, { on := 2, ground := Ground.data }], guard := none }, { dst := some 37, op := Op.call { callee := Callee.builtin Builtin.append, args := #[Operand.tmp 33, Operand.tmp 36], argTypes := #[25, 25] }, type := 25, pos := "l6_scope.go:14", after := #[{ on := 0, ground := Ground.data }, { on := 3, ground := Ground.data }], guard := none }, { dst := some 38, op := Op.move (Operand.tmp 1), type := 9, pos := "l6_scope.go:14", after := #[], guard := none }, { dst := some 39, op := Op.buildSlice 25 1 #[(0, Operand.tmp 38)], type := 25, pos := "l6_scope.go:14", after := #[{ on := 5, ground := Ground.data }], guard := none }, { dst := some 40, op := Op.call { callee := Callee.builtin Builtin.append, args := #[Operand.tmp 37, Operand.tmp 39], argTypes := #[25, 25] }, type := 25, pos := "l6_scope.go:14", after := #[{ on := 4, ground := Ground.data }, { on := 6, ground := Ground.data }, { on := 4, ground := Ground.chain }], guard := none }, { dst := some 41, op := Op.move (Operand.tmp 0), type := 25, pos := "l6_scope.go:14", after := #[], guard := none }, { dst := some 42, op := Op.move (Operand.tmp 5), type := 3, pos := "l6_scope.go:14", after := #[], guard := none }, { dst := some 43, op := Op.slice 25 (Operand.tmp 41) (some (Operand.tmp 42)) none none, type := 25, pos := "l6_scope.go:14", after := #[{ on := 8, ground := Ground.data }, { on := 9, ground := Ground.data }], guard := none }, { dst := some 44, op := Op.call { callee := Callee.builtin Builtin.append, args := #[Operand.tmp 40, Operand.tmp 43], argTypes := #[25, 25] }, type := 25, pos := "l6_scope.go:14", after := #[{ on := 7, ground := Ground.data }, { on := 10, ground := Ground.data }, { on := 7, ground := Ground.chain }], guard := none }, { dst := some 4, op := Op.assign (Operand.tmp 44), type := 25, pos := "l6_scope.go:14", after := #[{ on := 11, ground := Ground.data }, { on := 11, ground := Ground.chain }, { on := 0, ground := Ground.phase }, { on := 1, ground := Ground.phase }, { on := 2, ground := Ground.phase }, { on := 3, ground := Ground.phase }, { on := 4, ground := Ground.phase }, { on := 5, ground := Ground.phase }, { on := 6, ground := Ground.phase }, { on := 7, ground := Ground.phase }, { on := 8, ground := Ground.phase }, { on := 9, ground := Ground.phase }, { on := 10, ground := Ground.phase }, { on := 11, ground := Ground.phase }], guard := none }] true) Q { tmps := (.slice na n nc :: .string s :: t2 :: t3 :: t4 :: .int .i64 (k : Nat) :: t6 :: t7 :: t8 :: t9 :: t10 :: t11 :: t12 :: t13 :: t14 :: t15 :: t16 :: t17 :: t18 :: t19 :: t20 :: t21 :: t22 :: t23 :: t24 :: t25 :: t26 :: t27 :: t28 :: t29 :: t30 :: t31 :: t32 :: t33 :: t34 :: t35 :: t36 :: t37 :: t38 :: t39 :: t40 :: t41 :: t42 :: t43 :: t44 :: []).toArray, defers := [] } W := by
  obtain ⟨i0, hi, hz0, hz1, hz2⟩ := info_parts textInfo
  obtain ⟨hn1, hn2⟩ := hn
  unfold maxLen at hn2
  have HT : Hid (∀ w', Below W.heap.size W w' → Src w' na k (L.take (k * 1))) := fun w' h => Lies.take0 (hL.grow h) hl (by omega) k hk
  have HD : Hid (∀ w', Below W.heap.size W w' → Src w' (if nc = k then na else na.map (fun x => x.add k)) (n - k) (L.drop (k * 1))) := fun w' h => by have := Lies.drop (hL.grow h) hl (by omega) k nc hn1; simpa using this
  have HL : Hid ((L.take (k * 1)).length = k * 1 ∧ (L.drop (k * 1)).length = (n - k) * 1) := ⟨by rw [List.length_take, hl]; exact Nat.min_eq_left (Nat.mul_le_mul_right _ hk), by rw [List.length_drop, hl, Nat.sub_mul]⟩
  have H1 : Hid ((∀ u ∈ L.take (k * 1), u.oneCell' = true) ∧ (∀ u ∈ L.drop (k * 1), u.oneCell' = true)) := ⟨fun u hu => h1 u (List.mem_of_mem_take hu), fun u hu => h1 u (List.mem_of_mem_drop hu)⟩
  clear hL hl h1
  have hB0 : Below W.heap.size W W.drew := (Below.refl _ W).drew
  refine wp_region_held_drew (S := fun _ => True) (by kernel_rfl) trivial (fun _ => ?_)
  generalize W.drew = Wd at *
  have hSw : (fun _ : World => True) Wd := trivial
  refine wpAnyH_take (i := 1) (v := .slice na n nc) rfl (by kernel_rfl) (by kernel_rfl) (by kernel_rfl) (fun _ _ _ h => hp _ _ _ _ _ h) (Or.inl ⟨by rfl, ?_⟩) (by assumption) ?_
  · intro w hSw
    (try dsimp only at hSw)
    go_simp
  (try simp only [Act.put, List.getElem_toArray, List.getElem_cons_zero, List.getElem_cons_succ, List.setIfInBounds_toArray, List.set_cons_zero, List.set_cons_succ])
  refine wpAnyH_take (i := 2) (v := .int .i64 (k : Nat)) rfl (by kernel_rfl) (by kernel_rfl) (by kernel_rfl) (fun _ _ _ h => hp _ _ _ _ _ h) (Or.inl ⟨by rfl, ?_⟩) (by assumption) ?_
  · intro w hSw
    (try dsimp only at hSw)
    go_simp
  (try simp only [Act.put, List.getElem_toArray, List.getElem_cons_zero, List.getElem_cons_succ, List.setIfInBounds_toArray, List.set_cons_zero, List.set_cons_succ])
  refine wpAnyH_take (i := 3) (v := .slice na k nc) rfl (by kernel_rfl) (by kernel_rfl) (by kernel_rfl) (fun _ _ _ h => hp _ _ _ _ _ h) (Or.inl ⟨by rfl, ?_⟩) (by assumption) ?_
  · intro w hSw
    (try dsimp only at hSw)
    (go_simp <;> first | done | omega | (simp [sliced]; omega) | simp [sliced])
  (try simp only [Act.put, List.getElem_toArray, List.getElem_cons_zero, List.getElem_cons_succ, List.setIfInBounds_toArray, List.set_cons_zero, List.set_cons_succ])
  refine wpAnyH_take (i := 5) (v := .string s) rfl (by kernel_rfl) (by kernel_rfl) (by kernel_rfl) (fun _ _ _ h => hp _ _ _ _ _ h) (Or.inl ⟨by rfl, ?_⟩) (by assumption) ?_
  · intro w hSw
    (try dsimp only at hSw)
    go_simp
  (try simp only [Act.put, List.getElem_toArray, List.getElem_cons_zero, List.getElem_cons_succ, List.setIfInBounds_toArray, List.set_cons_zero, List.set_cons_succ])
  refine wpAnyH_take (i := 8) (v := .slice na n nc) rfl (by kernel_rfl) (by kernel_rfl) (by kernel_rfl) (fun _ _ _ h => hp _ _ _ _ _ h) (Or.inl ⟨by rfl, ?_⟩) (by assumption) ?_
  · intro w hSw
    (try dsimp only at hSw)
    go_simp
  (try simp only [Act.put, List.getElem_toArray, List.getElem_cons_zero, List.getElem_cons_succ, List.setIfInBounds_toArray, List.set_cons_zero, List.set_cons_succ])
  refine wpAnyH_take (i := 9) (v := .int .i64 (k : Nat)) rfl (by kernel_rfl) (by kernel_rfl) (by kernel_rfl) (fun _ _ _ h => hp _ _ _ _ _ h) (Or.inl ⟨by rfl, ?_⟩) (by assumption) ?_
  · intro w hSw
    (try dsimp only at hSw)
    go_simp
  (try simp only [Act.put, List.getElem_toArray, List.getElem_cons_zero, List.getElem_cons_succ, List.setIfInBounds_toArray, List.set_cons_zero, List.set_cons_succ])
  refine wpAnyH_take (i := 10) (v := .slice (if nc = k then na else na.map (fun x => x.add k)) (n - k) (nc - k)) rfl (by kernel_rfl) (by kernel_rfl) (by kernel_rfl) (fun _ _ _ h => hp _ _ _ _ _ h) (Or.inl ⟨by rfl, ?_⟩) (by assumption) ?_
  · intro w hSw
    (try dsimp only at hSw)
    (go_simp <;> first | done | omega | (simp [sliced]; omega) | simp [sliced])
  (try simp only [Act.put, List.getElem_toArray, List.getElem_cons_zero, List.getElem_cons_succ, List.setIfInBounds_toArray, List.set_cons_zero, List.set_cons_succ])
  clear hSw
  refine wpAnyH_ready (rs := [0, 6]) (by kernel_rfl) (by simp) ?_
  refine AllReadyH.cons rfl (fun K hK => ?_) (AllReadyH.cons rfl (fun K hK => ?_) AllReadyH.nil)
  · skip
    go_simp
    have hown := own_nothing Wd W.heap.size 1 9 hB0.size
    have hB1 := hB0.alloc hB0.size (.cells #[] 9)
    refine hK.out _ _ trivial (fun _ => ?_)
    clear hK K hB0
    have hB0 := hB1
    clear hB1
    obtain ⟨g0, hg0⟩ : ∃ g, Wd.heap.size = g := ⟨_, rfl⟩
    rw [hg0] at hown ⊢
    obtain ⟨vo, hvo⟩ : ∃ vo, vo = Value.slice (some ⟨g0, 0, none⟩) 0 0 := ⟨_, rfl⟩
    rw [← hvo] at hown ⊢
    clear hvo
    generalize Wd.alloc (.cells #[] 9) = W1 at *
    clear hg0
    refine wpAnyH_ready (rs := [4, 6]) (by kernel_rfl) (by simp) ?_
    refine AllReadyH.cons rfl (fun K hK => ?_) (AllReadyH.cons rfl (fun K hK => ?_) AllReadyH.nil)
    · skip
      refine wp_append_lie W1 _ _ 25 rfl W.heap.size 9 i0 _ 1 16 Try.underlying25 hi hz0 hz1 hz2 rfl (by decide) vo 0 [] rfl hown na k nc (L.take (k * 1)) rfl HL.out.1 (HT.out _ hB0) H1.out.1 (by unfold maxLen; omega) (by omega) hB0.size ?_
      intro vo2 W2 hown2 hgr hbl
      have hB1 := below_grown hB0 hown hgr hB0.size
      refine hK.out _ _ trivial (fun _ => ?_)
      clear hK K hB0 hown hgr hbl
      have hB0 := hB1
      clear hB1
      have hown := hown2
      clear hown2
      (try simp only [Act.put, List.getElem_toArray, List.getElem_cons_zero, List.getElem_cons_succ, List.setIfInBounds_toArray, List.set_cons_zero, List.set_cons_succ])
      rw [List.nil_append, Nat.zero_add] at hown
      refine wpAnyH_ready (rs := [6]) (by kernel_rfl) (by simp) ?_
      refine AllReadyH.cons rfl (fun K hK => ?_) AllReadyH.nil
      go_simp
      obtain ⟨g7, hg7⟩ : ∃ g, W2.heap.size = g := ⟨_, rfl⟩
      have hel : Own0 (W2.alloc (.cells #[.string s] 9)) W.heap.size W2.heap.size [Value.string s] := Own0.new W2 W.heap.size [.string s] 9 hB0.size
      have hown2 := own_keep hown ((Below.refl _ W2).alloc (Nat.le_refl _) (.cells #[.string s] 9))
      have hne : ∀ r, Value.ownBlock vo2 = some r → r ≠ g7 := fun r hr => by have := (hown.lt r hr).2; omega
      clear hown
      have hown := hown2
      clear hown2
      have hB1 := hB0.alloc hB0.size (.cells #[.string s] 9)
      refine hK.out _ _ trivial (fun _ => ?_)
      clear hK K hB0
      have hB0 := hB1
      clear hB1
      rw [hg7] at hel ⊢
      generalize W2.alloc (.cells #[.string s] 9) = W3 at *
      clear hg7
      refine wpAnyH_ready (rs := [7]) (by kernel_rfl) (by simp) ?_
      refine AllReadyH.cons rfl (fun K hK => ?_) AllReadyH.nil
      refine wp_append_lie W3 _ _ 25 rfl W.heap.size 9 i0 _ 1 16 Try.underlying25 hi hz0 hz1 hz2 rfl (by decide) vo2 k _ rfl hown (some ⟨g7, 0, none⟩) 1 1 [Value.string s] rfl rfl (hel.src 1) (fun u hu => by simp at hu; subst hu; rfl) (by unfold maxLen; omega) (by omega) hB0.size ?_
      intro vo3 W4 hown2 hgr _
      have hB1 := below_grown hB0 hown hgr hB0.size
      refine hK.out _ _ trivial (fun _ => ?_)
      clear hK K hB0 hown hgr hel hne
      have hB0 := hB1
      clear hB1
      have hown := hown2
      clear hown2
      (try simp only [Act.put, List.getElem_toArray, List.getElem_cons_zero, List.getElem_cons_succ, List.setIfInBounds_toArray, List.set_cons_zero, List.set_cons_succ])
      refine wpAnyH_ready (rs := [11]) (by kernel_rfl) (by simp) ?_
      refine AllReadyH.cons rfl (fun K hK => ?_) AllReadyH.nil
      refine wp_append_lie W4 _ _ 25 rfl W.heap.size 9 i0 _ 1 16 Try.underlying25 hi hz0 hz1 hz2 rfl (by decide) vo3 (k + 1) _ rfl hown (if nc = k then na else na.map (fun x => x.add k)) (n - k) (nc - k) (L.drop (k * 1)) rfl HL.out.2 (HD.out _ hB0) H1.out.2 (by unfold maxLen; omega) (by omega) hB0.size ?_
      intro v' W5 hown2 hgr _
      have hB1 := below_grown hB0 hown hgr hB0.size
      refine hK.out _ _ trivial (fun _ => ?_)
      clear hK K hB0 hown hgr
      (try simp only [Act.put, List.getElem_toArray, List.getElem_cons_zero, List.getElem_cons_succ, List.setIfInBounds_toArray, List.set_cons_zero, List.set_cons_succ])
      have hSw : (fun _ : World => True) W5 := trivial
      refine wpAnyH_take (i := 12) (v := v') rfl (by kernel_rfl) (by kernel_rfl) (by kernel_rfl) (fun _ _ _ h => hp _ _ _ _ _ h) (Or.inl ⟨by rfl, ?_⟩) (by assumption) ?_
      · intro w hSw
        (try dsimp only at hSw)
        go_simp
      (try simp only [Act.put, List.getElem_toArray, List.getElem_cons_zero, List.getElem_cons_succ, List.setIfInBounds_toArray, List.set_cons_zero, List.set_cons_succ])
      rw [show k + 1 + (n - k) = n + 1 by omega, List.append_assoc] at hown2
      refine wpAnyH_done (by kernel_rfl) ?_ _
      exact h _ _ _ _ _ _ _ _ _ _ _ _ _ hB1 hown2
    · skip
      go_simp
      obtain ⟨g7, hg7⟩ : ∃ g, W1.heap.size = g := ⟨_, rfl⟩
      have hel : Own0 (W1.alloc (.cells #[.string s] 9)) W.heap.size W1.heap.size [Value.string s] := Own0.new W1 W.heap.size [.string s] 9 hB0.size
      have hown2 := own_keep hown ((Below.refl _ W1).alloc (Nat.le_refl _) (.cells #[.string s] 9))
      have hne : ∀ r, Value.ownBlock vo = some r → r ≠ g7 := fun r hr => by have := (hown.lt r hr).2; omega
      clear hown
      have hown := hown2
      clear hown2
      have hB1 := hB0.alloc hB0.size (.cells #[.string s] 9)
      refine hK.out _ _ trivial (fun _ => ?_)
      clear hK K hB0
      have hB0 := hB1
      clear hB1
      rw [hg7] at hel ⊢
      generalize W1.alloc (.cells #[.string s] 9) = W6 at *
      clear hg7
      refine wpAnyH_ready (rs := [4]) (by kernel_rfl) (by simp) ?_
      refine AllReadyH.cons rfl (fun K hK => ?_) AllReadyH.nil
      refine wp_append_lie W6 _ _ 25 rfl W.heap.size 9 i0 _ 1 16 Try.underlying25 hi hz0 hz1 hz2 rfl (by decide) vo 0 [] rfl hown na k nc (L.take (k * 1)) rfl HL.out.1 (HT.out _ hB0) H1.out.1 (by unfold maxLen; omega) (by omega) hB0.size ?_
      intro vo2 W7 hown2 hgr hbl
      have hB1 := below_grown hB0 hown hgr hB0.size
      have hel2 := hel.grown hgr (fun e => hne _ e rfl)
      have hne2 : ∀ r, Value.ownBlock vo2 = some r → r ≠ g7 := fun r hr => by
        rcases hbl with hbl | hbl
        · exact hne r (hbl ▸ hr)
        · rw [hbl] at hr; cases hr; have := hel.2.1; omega
      refine hK.out _ _ trivial (fun _ => ?_)
      clear hK K hB0 hown hgr hbl hne hel
      have hB0 := hB1
      clear hB1
      have hown := hown2
      clear hown2
      (try simp only [Act.put, List.getElem_toArray, List.getElem_cons_zero, List.getElem_cons_succ, List.setIfInBounds_toArray, List.set_cons_zero, List.set_cons_succ])
      have hel := hel2
      have hne := hne2
      clear hel2 hne2
      rw [List.nil_append, Nat.zero_add] at hown
      refine wpAnyH_ready (rs := [7]) (by kernel_rfl) (by simp) ?_
      refine AllReadyH.cons rfl (fun K hK => ?_) AllReadyH.nil
      refine wp_append_lie W7 _ _ 25 rfl W.heap.size 9 i0 _ 1 16 Try.underlying25 hi hz0 hz1 hz2 rfl (by decide) vo2 k _ rfl hown (some ⟨g7, 0, none⟩) 1 1 [Value.string s] rfl rfl (hel.src 1) (fun u hu => by simp at hu; subst hu; rfl) (by unfold maxLen; omega) (by omega) hB0.size ?_
      intro vo3 W8 hown2 hgr _
      have hB1 := below_grown hB0 hown hgr hB0.size
      refine hK.out _ _ trivial (fun _ => ?_)
      clear hK K hB0 hown hgr hel hne
      have hB0 := hB1
      clear hB1
      have hown := hown2
      clear hown2
      (try simp only [Act.put, List.getElem_toArray, List.getElem_cons_zero, List.getElem_cons_succ, List.setIfInBounds_toArray, List.set_cons_zero, List.set_cons_succ])
      refine wpAnyH_ready (rs := [11]) (by kernel_rfl) (by simp) ?_
      refine AllReadyH.cons rfl (fun K hK => ?_) AllReadyH.nil
      refine wp_append_lie W8 _ _ 25 rfl W.heap.size 9 i0 _ 1 16 Try.underlying25 hi hz0 hz1 hz2 rfl (by decide) vo3 (k + 1) _ rfl hown (if nc = k then na else na.map (fun x => x.add k)) (n - k) (nc - k) (L.drop (k * 1)) rfl HL.out.2 (HD.out _ hB0) H1.out.2 (by unfold maxLen; omega) (by omega) hB0.size ?_
      intro v' W9 hown2 hgr _
      have hB1 := below_grown hB0 hown hgr hB0.size
      refine hK.out _ _ trivial (fun _ => ?_)
      clear hK K hB0 hown hgr
      (try simp only [Act.put, List.getElem_toArray, List.getElem_cons_zero, List.getElem_cons_succ, List.setIfInBounds_toArray, List.set_cons_zero, List.set_cons_succ])
      have hSw : (fun _ : World => True) W9 := trivial
      refine wpAnyH_take (i := 12) (v := v') rfl (by kernel_rfl) (by kernel_rfl) (by kernel_rfl) (fun _ _ _ h => hp _ _ _ _ _ h) (Or.inl ⟨by rfl, ?_⟩) (by assumption) ?_
      · intro w hSw
        (try dsimp only at hSw)
        go_simp
      (try simp only [Act.put, List.getElem_toArray, List.getElem_cons_zero, List.getElem_cons_succ, List.setIfInBounds_toArray, List.set_cons_zero, List.set_cons_succ])
      rw [show k + 1 + (n - k) = n + 1 by omega, List.append_assoc] at hown2
      refine wpAnyH_done (by kernel_rfl) ?_ _
      exact h _ _ _ _ _ _ _ _ _ _ _ _ _ hB1 hown2
  · skip
    go_simp
    obtain ⟨g7, hg7⟩ : ∃ g, Wd.heap.size = g := ⟨_, rfl⟩
    have hel : Own0 (Wd.alloc (.cells #[.string s] 9)) W.heap.size Wd.heap.size [Value.string s] := Own0.new Wd W.heap.size [.string s] 9 hB0.size
    have hB1 := hB0.alloc hB0.size (.cells #[.string s] 9)
    refine hK.out _ _ trivial (fun _ => ?_)
    clear hK K hB0
    have hB0 := hB1
    clear hB1
    rw [hg7] at hel ⊢
    generalize Wd.alloc (.cells #[.string s] 9) = W10 at *
    clear hg7
    refine wpAnyH_ready (rs := [0]) (by kernel_rfl) (by simp) ?_
    refine AllReadyH.cons rfl (fun K hK => ?_) AllReadyH.nil
    go_simp
    have hown := own_nothing W10 W.heap.size 1 9 hB0.size
    have hB1 := hB0.alloc hB0.size (.cells #[] 9)
    have hel2 := hel.below ((Below.refl _ W10).alloc (Nat.le_refl _) (.cells #[] 9))
    have hne : ∀ r, Value.ownBlock (.slice (some ⟨W10.heap.size, 0, none⟩) 0 0) = some r → r ≠ g7 := fun r hr => by simp [Value.ownBlock] at hr; have := hel.2.1; omega
    clear hel
    have hel := hel2
    clear hel2
    refine hK.out _ _ trivial (fun _ => ?_)
    clear hK K hB0
    have hB0 := hB1
    clear hB1
    obtain ⟨g0, hg0⟩ : ∃ g, W10.heap.size = g := ⟨_, rfl⟩
    rw [hg0] at hown hne ⊢
    obtain ⟨vo, hvo⟩ : ∃ vo, vo = Value.slice (some ⟨g0, 0, none⟩) 0 0 := ⟨_, rfl⟩
    rw [← hvo] at hown hne ⊢
    clear hvo
    generalize W10.alloc (.cells #[] 9) = W11 at *
    clear hg0
    refine wpAnyH_ready (rs := [4]) (by kernel_rfl) (by simp) ?_
    refine AllReadyH.cons rfl (fun K hK => ?_) AllReadyH.nil
    refine wp_append_lie W11 _ _ 25 rfl W.heap.size 9 i0 _ 1 16 Try.underlying25 hi hz0 hz1 hz2 rfl (by decide) vo 0 [] rfl hown na k nc (L.take (k * 1)) rfl HL.out.1 (HT.out _ hB0) H1.out.1 (by unfold maxLen; omega) (by omega) hB0.size ?_
    intro vo2 W12 hown2 hgr hbl
    have hB1 := below_grown hB0 hown hgr hB0.size
    have hel2 := hel.grown hgr (fun e => hne _ e rfl)
    have hne2 : ∀ r, Value.ownBlock vo2 = some r → r ≠ g7 := fun r hr => by
      rcases hbl with hbl | hbl
      · exact hne r (hbl ▸ hr)
      · rw [hbl] at hr; cases hr; have := hel.2.1; omega
    refine hK.out _ _ trivial (fun _ => ?_)
    clear hK K hB0 hown hgr hbl hne hel
    have hB0 := hB1
    clear hB1
    have hown := hown2
    clear hown2
    (try simp only [Act.put, List.getElem_toArray, List.getElem_cons_zero, List.getElem_cons_succ, List.setIfInBounds_toArray, List.set_cons_zero, List.set_cons_succ])
    have hel := hel2
    have hne := hne2
    clear hel2 hne2
    rw [List.nil_append, Nat.zero_add] at hown
    refine wpAnyH_ready (rs := [7]) (by kernel_rfl) (by simp) ?_
    refine AllReadyH.cons rfl (fun K hK => ?_) AllReadyH.nil
    refine wp_append_lie W12 _ _ 25 rfl W.heap.size 9 i0 _ 1 16 Try.underlying25 hi hz0 hz1 hz2 rfl (by decide) vo2 k _ rfl hown (some ⟨g7, 0, none⟩) 1 1 [Value.string s] rfl rfl (hel.src 1) (fun u hu => by simp at hu; subst hu; rfl) (by unfold maxLen; omega) (by omega) hB0.size ?_
    intro vo3 W13 hown2 hgr _
    have hB1 := below_grown hB0 hown hgr hB0.size
    refine hK.out _ _ trivial (fun _ => ?_)
    clear hK K hB0 hown hgr hel hne
    have hB0 := hB1
    clear hB1
    have hown := hown2
    clear hown2
    (try simp only [Act.put, List.getElem_toArray, List.getElem_cons_zero, List.getElem_cons_succ, List.setIfInBounds_toArray, List.set_cons_zero, List.set_cons_succ])
    refine wpAnyH_ready (rs := [11]) (by kernel_rfl) (by simp) ?_
    refine AllReadyH.cons rfl (fun K hK => ?_) AllReadyH.nil
    refine wp_append_lie W13 _ _ 25 rfl W.heap.size 9 i0 _ 1 16 Try.underlying25 hi hz0 hz1 hz2 rfl (by decide) vo3 (k + 1) _ rfl hown (if nc = k then na else na.map (fun x => x.add k)) (n - k) (nc - k) (L.drop (k * 1)) rfl HL.out.2 (HD.out _ hB0) H1.out.2 (by unfold maxLen; omega) (by omega) hB0.size ?_
    intro v' W14 hown2 hgr _
    have hB1 := below_grown hB0 hown hgr hB0.size
    refine hK.out _ _ trivial (fun _ => ?_)
    clear hK K hB0 hown hgr
    (try simp only [Act.put, List.getElem_toArray, List.getElem_cons_zero, List.getElem_cons_succ, List.setIfInBounds_toArray, List.set_cons_zero, List.set_cons_succ])
    have hSw : (fun _ : World => True) W14 := trivial
    refine wpAnyH_take (i := 12) (v := v') rfl (by kernel_rfl) (by kernel_rfl) (by kernel_rfl) (fun _ _ _ h => hp _ _ _ _ _ h) (Or.inl ⟨by rfl, ?_⟩) (by assumption) ?_
    · intro w hSw
      (try dsimp only at hSw)
      go_simp
    (try simp only [Act.put, List.getElem_toArray, List.getElem_cons_zero, List.getElem_cons_succ, List.setIfInBounds_toArray, List.set_cons_zero, List.set_cons_succ])
    rw [show k + 1 + (n - k) = n + 1 by omega, List.append_assoc] at hown2
    refine wpAnyH_done (by kernel_rfl) ?_ _
    exact h _ _ _ _ _ _ _ _ _ _ _ _ _ hB1 hown2
end Go.Proofs.Ytmghhcdhjjhbeaa
/- Values: a value put into an object, by the specification: l2Has, l7Into. -/
namespace Go.Proofs.Ytmghhcdhjjhbeaa
open Go.RowKit
attribute [local go_sem] cell_alloc_is frozen_alloc_is
theorem texts_ext {a b : ByteArray} (h : (a.toList == b.toList) = true) : a = b := by
  have h := eq_of_beq h
  rw [ByteArray.toList_eq, ByteArray.toList_eq] at h
  exact ByteArray.ext (Array.toList_inj.1 h)
theorem plc_at {s : ByteArray} : ∀ {ss : List ByteArray} {k : Nat}, plc s ss = k + plc s (ss.drop k) → ∀ x, ss[k]? = some x → (Op.bytesLess x.toList s.toList = true → plc s ss = k + 1 + plc s (ss.drop (k + 1))) ∧ (Op.bytesLess x.toList s.toList = false → plc s ss = k) := by
  intro ss k h x hx
  obtain ⟨hk, he⟩ := List.getElem?_eq_some_iff.1 hx
  rw [List.drop_eq_getElem_cons hk, he] at h
  have e : plc s (x :: ss.drop (k + 1)) = if Op.bytesLess x.toList s.toList then plc s (ss.drop (k + 1)) + 1 else 0 := rfl
  rw [e] at h
  constructor
  · intro hb
    rw [if_pos hb] at h
    omega
  · intro hb
    rw [if_neg (by rw [hb]; exact Bool.false_ne_true)] at h
    omega
theorem Cells6.setOther {w : World} {b o : Nat} {h : Hd} {v : Value} (x : Cells6 w b o h v) {j : Nat} (hj : ¬ b = j) (q : Nat) (u : Value) : Cells6 (w.setCell ⟨j, q, none⟩ u) b o h v :=
  x.mono fun o' u' hu => (World.cell?_setCell_other _ _ _ _ (fun e => hj (by simpa using congrArg Addr.block e.symm))).trans hu
end Go.Proofs.Ytmghhcdhjjhbeaa
