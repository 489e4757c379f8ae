/- My own texts, joined: Vb Vd Kp Sa Sc Se Ud La Ue Lb Lc Eb Ld. -/
import Derived.Test.YtbbbmmemfndnlaaJFrees3
import Derived.Deep.RegionHeld3
import Derived.Laws.MakeOwn
import Derived.Test.YtbbbmmemfndnlaaJFrees1
import Derived.LaidEql
import Derived.Laws.StructEq
import Derived.WideKeyRuns
import Derived.Deep.AppendLies
import Derived.Deep.DeepCutAuto
import Derived.Carry
import Derived.Shelf.Spec.SearchS
import Derived.Shelf.Spec.SlicesInsertGrow
import Derived.Test.YtbbbmmemfndnlaaProg
import Derived.Lib.LazyBuf
import Derived.Deep.OwnRows
/- Lists of texts: the laws' measure, copy and comparison, and slices.Equal. -/
namespace Go.Proofs.Ytbbbmmemfndnlaa
open Go.RowKit
attribute [local go_sem] cell_alloc_is frozen_alloc_is
set_option maxRecDepth 100000 in
set_option maxHeartbeats 1000000 in
theorem es6 {Q : Exit → Act → World → Prop} {t2 t3 t4 t6 t7 t8 t9 t10 t11 t12 t13 t14 t15 t16 t17 t18 t19 t20 t21 t22 t23 t24 t25 : Value} {W : World} {b o n c b2 o2 n2 c2 j : Nat} {s s2 : ByteArray} {q : Bool}
    (hj : (j : Int) < (n : Int)) (hj2 : (j : Int) < (n2 : Int)) (h1 : W.cell? ⟨b, o + j, none⟩ = some (.string s)) (h2 : W.cell? ⟨b2, o2 + j, none⟩ = some (.string s2)) (hq : (s.toList == s2.toList) = !q)
    (hp : ∀ p d v a w, Q (.panic p) (Act.put a d v) w → Q (.panic p) a w) (h : ∀ ws v17 v18 v19 v20 v21 v22 v23 v24, Below W.heap.size W ws → Q .normal { tmps := ((.slice (some ⟨b, o, none⟩) n c) :: (.slice (some ⟨b2, o2, none⟩) n2 c2) :: t2 :: t3 :: t4 :: (.int .i64 (j : Nat)) :: t6 :: t7 :: t8 :: t9 :: t10 :: t11 :: t12 :: t13 :: t14 :: t15 :: t16 :: v17 :: v18 :: v19 :: v20 :: v21 :: v22 :: v23 :: v24 :: .bool q :: []).toArray, defers := [] } ws) :
    Code.wp Try.prog (Code.region 6 #[{ dst := some 17, op := Op.move (Operand.tmp 0), type := 28, pos := "exact.go:261", after := #[], guard := none }, { dst := some 18, op := Op.move (Operand.tmp 5), type := 3, pos := "exact.go:261", after := #[], guard := none }, { dst := some 19, op := Op.indexAddr 28 (Operand.tmp 17) (Operand.tmp 18), type := 0, pos := "exact.go:261", after := #[{ on := 0, ground := Ground.data }, { on := 1, ground := Ground.data }], guard := none }, { dst := some 20, op := Op.load 9 (Operand.tmp 19), type := 9, pos := "exact.go:261", after := #[{ on := 2, ground := Ground.data }], guard := none }, { dst := some 21, op := Op.move (Operand.tmp 1), type := 28, pos := "exact.go:261", after := #[], guard := none }, { dst := some 22, op := Op.move (Operand.tmp 5), type := 3, pos := "exact.go:261", after := #[], guard := none }, { dst := some 23, op := Op.indexAddr 28 (Operand.tmp 21) (Operand.tmp 22), type := 0, pos := "exact.go:261", after := #[{ on := 4, ground := Ground.data }, { on := 5, ground := Ground.data }], guard := none }, { dst := some 24, op := Op.load 9 (Operand.tmp 23), type := 9, pos := "exact.go:261", after := #[{ on := 6, ground := Ground.data }], guard := none }, { dst := some 25, op := Op.binOp BinOp.neq 9 (Operand.tmp 20) (Operand.tmp 24) 9, type := 4, pos := "exact.go:261", after := #[{ on := 3, ground := Ground.data }, { on := 7, ground := Ground.data }], guard := none }] true) Q { tmps := ((.slice (some ⟨b, o, none⟩) n c) :: (.slice (some ⟨b2, o2, none⟩) n2 c2) :: t2 :: t3 :: t4 :: (.int .i64 (j : Nat)) :: t6 :: t7 :: t8 :: t9 :: t10 :: t11 :: t12 :: t13 :: t14 :: t15 :: t16 :: t17 :: t18 :: t19 :: t20 :: t21 :: t22 :: t23 :: t24 :: t25 :: []).toArray, defers := [] } W := by
  have hS0 : W.drew.cell? ⟨b, o + j, none⟩ = some (.string s) ∧ W.drew.cell? ⟨b2, o2 + j, none⟩ = some (.string s2) := ⟨h1, h2⟩
  refine wp_region_held_drew (S := fun w' => w'.cell? ⟨b, o + j, none⟩ = some (.string s) ∧ w'.cell? ⟨b2, o2 + j, none⟩ = some (.string s2)) (by kernel_rfl) hS0 (fun hHeld => ?_)
  refine wpAnyH_take (i := 0) (v := .slice (some ⟨b, o, none⟩) n c) rfl (by kernel_rfl) (by kernel_rfl) (by kernel_rfl) (fun _ _ _ h => hp _ _ _ _ _ h) (Or.inl ⟨by rfl, ?_⟩) (by assumption) ?_
  · intro w hSw
    (try dsimp only at hSw)
    go_simp
  (try simp only [Act.put, List.getElem_toArray, List.getElem_cons_zero, List.setIfInBounds_toArray, List.set_cons_zero, List.set_cons_succ])
  refine wpAnyH_take (i := 1) (v := .int .i64 (j : Nat)) rfl (by kernel_rfl) (by kernel_rfl) (by kernel_rfl) (fun _ _ _ h => hp _ _ _ _ _ h) (Or.inl ⟨by rfl, ?_⟩) (by assumption) ?_
  · intro w hSw
    (try dsimp only at hSw)
    go_simp
  (try simp only [Act.put, List.getElem_toArray, List.getElem_cons_zero, List.getElem_cons_succ, List.setIfInBounds_toArray, List.set_cons_zero, List.set_cons_succ])
  refine wpAnyH_take (i := 2) (v := .pointer (some ⟨b, o + j, none⟩)) rfl (by kernel_rfl) (by kernel_rfl) (by kernel_rfl) (fun _ _ _ h => hp _ _ _ _ _ h) (Or.inl ⟨by rfl, ?_⟩) (by assumption) ?_
  · intro w hSw
    (try dsimp only at hSw)
    go_simp
  (try simp only [Act.put, List.getElem_toArray, List.getElem_cons_zero, List.getElem_cons_succ, List.setIfInBounds_toArray, List.set_cons_zero, List.set_cons_succ])
  refine wpAnyH_take (i := 3) (v := .string s) rfl (by kernel_rfl) (by kernel_rfl) (by kernel_rfl) (fun _ _ _ h => hp _ _ _ _ _ h) (Or.inl ⟨by rfl, ?_⟩) (by assumption) ?_
  · intro w hSw
    (try dsimp only at hSw)
    go_simp
  (try simp only [Act.put, List.getElem_toArray, List.getElem_cons_zero, List.getElem_cons_succ, List.setIfInBounds_toArray, List.set_cons_zero, List.set_cons_succ])
  refine wpAnyH_take (i := 4) (v := .slice (some ⟨b2, o2, none⟩) n2 c2) rfl (by kernel_rfl) (by kernel_rfl) (by kernel_rfl) (fun _ _ _ h => hp _ _ _ _ _ h) (Or.inl ⟨by rfl, ?_⟩) (by assumption) ?_
  · intro w hSw
    (try dsimp only at hSw)
    go_simp
  (try simp only [Act.put, List.getElem_toArray, List.getElem_cons_zero, List.getElem_cons_succ, List.setIfInBounds_toArray, List.set_cons_zero, List.set_cons_succ])
  refine wpAnyH_take (i := 5) (v := .int .i64 (j : Nat)) rfl (by kernel_rfl) (by kernel_rfl) (by kernel_rfl) (fun _ _ _ h => hp _ _ _ _ _ h) (Or.inl ⟨by rfl, ?_⟩) (by assumption) ?_
  · intro w hSw
    (try dsimp only at hSw)
    go_simp
  (try simp only [Act.put, List.getElem_toArray, List.getElem_cons_zero, List.getElem_cons_succ, List.setIfInBounds_toArray, List.set_cons_zero, List.set_cons_succ])
  refine wpAnyH_take (i := 6) (v := .pointer (some ⟨b2, o2 + j, none⟩)) rfl (by kernel_rfl) (by kernel_rfl) (by kernel_rfl) (fun _ _ _ h => hp _ _ _ _ _ h) (Or.inl ⟨by rfl, ?_⟩) (by assumption) ?_
  · intro w hSw
    (try dsimp only at hSw)
    go_simp
  (try simp only [Act.put, List.getElem_toArray, List.getElem_cons_zero, List.getElem_cons_succ, List.setIfInBounds_toArray, List.set_cons_zero, List.set_cons_succ])
  refine wpAnyH_take (i := 7) (v := .string s2) rfl (by kernel_rfl) (by kernel_rfl) (by kernel_rfl) (fun _ _ _ h => hp _ _ _ _ _ h) (Or.inl ⟨by rfl, ?_⟩) (by assumption) ?_
  · intro w hSw
    (try dsimp only at hSw)
    go_simp
  (try simp only [Act.put, List.getElem_toArray, List.getElem_cons_zero, List.getElem_cons_succ, List.setIfInBounds_toArray, List.set_cons_zero, List.set_cons_succ])
  refine wpAnyH_take (i := 8) (v := .bool q) rfl (by kernel_rfl) (by kernel_rfl) (by kernel_rfl) (fun _ _ _ h => hp _ _ _ _ _ h) (Or.inl ⟨by rfl, ?_⟩) (by assumption) ?_
  · intro w hSw
    (try dsimp only at hSw)
    go_simp
  (try simp only [Act.put, List.getElem_toArray, List.getElem_cons_zero, List.getElem_cons_succ, List.setIfInBounds_toArray, List.set_cons_zero, List.set_cons_succ])
  refine wpAnyH_done (by kernel_rfl) ?_ _
  exact h _ _ _ _ _ _ _ _ _ ((Below.refl W.heap.size W).drew)
theorem text_ext {a b : ByteArray} (h : a.toList = b.toList) : a = b := by
  rw [ByteArray.toList_eq, ByteArray.toList_eq] at h
  cases a; cases b; simpa using h
theorem text_ne {a b : ByteArray} (h : a ≠ b) : (a.toList != b.toList) = true := by
  rw [bne_iff_ne]; exact fun e => h (text_ext e)
set_option maxRecDepth 100000 in
set_option maxHeartbeats 1000000 in
theorem eqStringS_any (ss tt : List ByteArray) (a a2 : Option Addr) (c c2 : Nat) (w : World) (hin : SIn w ss a) (hin2 : SIn w tt a2) (hl : ss.length ≤ c) (hc : c ≤ maxLen) (hl2 : tt.length ≤ c2) :
    Calls Try.prog 11 #[.slice a ss.length c, .slice a2 tt.length c2] w fun r w' => r = .returned (.bool (decide (ss = tt))) ∧ Below w.heap.size w w' := by
  unfold maxLen at hc
  by_cases hlen : ss.length = tt.length
  · obtain ⟨N, hN⟩ : ∃ N, ss.length = N := ⟨_, rfl⟩
    have HN : Hid (ss.length = N) := hN
    have HN2 : Hid (tt.length = N) := hlen.symm.trans hN
    rw [← hlen, hN] at hl2 ⊢
    rw [hN] at hl
    clear hlen hN
    go_enter Try.func11, Try.ntmps11
    go_wp2_with fail
    go_loopw [5] (fun i wr => ∃ (j : Nat), i = .int .i64 j ∧ j ≤ N ∧ (∀ q, q < j → ss[q]? = tt[q]?) ∧ Below w.heap.size w wr) (fun i _ => N - (intOf i).toNat)
    case atStart => exact ⟨0, rfl, Nat.zero_le _, fun q hq => absurd hq (Nat.not_lt_zero _), Below.refl _ _⟩
    case round =>
      obtain ⟨j, rfl, hj, hP, hb⟩ := hrel
      have HP : Hid (∀ q, q < j → ss[q]? = tt[q]?) := hP
      clear hP
      by_cases hjn : j < N
      · have hlt : (j : Int) < (N : Int) := by omega
        obtain ⟨s, hs⟩ : ∃ s, ss[j]? = some s := ⟨ss[j]'(by rw [HN.out]; exact hjn), List.getElem?_eq_getElem _⟩
        obtain ⟨s2, hs2⟩ : ∃ s, tt[j]? = some s := ⟨tt[j]'(by rw [HN2.out]; exact hjn), List.getElem?_eq_getElem _⟩
        rcases hin with hin | ⟨b, o, rfl, hF⟩
        · rw [hin] at hs; simp at hs
        rcases hin2 with hin2 | ⟨b2, o2, rfl, hF2⟩
        · rw [hin2] at hs2; simp at hs2
        have h1 := ((hF.grow hb).at hs).1
        have h2 := ((hF2.grow hb).at hs2).1
        have HS : Hid (ss[j]? = some s ∧ tt[j]? = some s2) := ⟨hs, hs2⟩
        clear hs hs2 hF hF2
        by_cases he : s = s2
        · subst he
          go_wp2_with fail
          refine es6 hlt hlt h1 h2 (q := false) (by simp) (fun _ d _ _ _ h => by cases d <;> exact h) ?_
          intro ws v17 v18 v19 v20 v21 v22 v23 v24 hb1
          have hb2 := hb.trans (hb1.mono hb.size)
          clear h1 h2 hb1 hb
          go_wp2_with fail
          go_round
          case rel =>
            refine ⟨j + 1, by go_num, by omega, fun q hq => ?_, hb2⟩
            by_cases e : q = j
            · rw [e, HS.out.1, HS.out.2]
            · exact HP.out q (by omega)
          case measure => simp [intOf]; omega
        · have hne := text_ne he
          have HR : Hid (decide (ss = tt) = false) := decide_eq_false fun e => he (by have := HS.out; rw [e] at this; exact Option.some.inj (this.1.symm.trans this.2))
          go_wp2_with fail
          refine es6 hlt hlt h1 h2 (q := true) (by simpa using hne) (fun _ d _ _ _ h => by cases d <;> exact h) ?_
          intro ws v17 v18 v19 v20 v21 v22 v23 v24 hb1
          have hb2 := hb.trans (hb1.mono hb.size)
          clear h1 h2 hb1 hb hne
          go_wp2_with fail
          go_ret
          exact ⟨by rw [HR.out]; rfl, hb2⟩
      · have e : j = N := by omega
        subst e
        have HR : Hid (decide (ss = tt) = true) := decide_eq_true (List.ext_getElem? fun i => by
          by_cases hi : i < j
          · exact HP.out i hi
          · rw [List.getElem?_eq_none (by rw [HN.out]; omega), List.getElem?_eq_none (by rw [HN2.out]; omega)])
        clear hin hin2
        go_wp2_with fail
        go_ret
        exact ⟨by rw [HR.out]; rfl, hb⟩
  · have hne : ((ss.length : Int) != (tt.length : Int)) = true := by simp; omega
    have HR : Hid (decide (ss = tt) = false) := decide_eq_false fun e => hlen (by rw [e])
    rw [HR.out]
    obtain ⟨n1, h1⟩ : ∃ n1, ss.length = n1 := ⟨_, rfl⟩
    obtain ⟨n2, h2⟩ : ∃ n2, tt.length = n2 := ⟨_, rfl⟩
    rw [h1, h2] at hne hlen ⊢
    have hlen' : ¬ (n1 : Int) = (n2 : Int) := by omega
    clear hin hin2 h1 h2 HR
    go_enter Try.func11, Try.ntmps11
    go_wp2_with fail
    go_ret
    exact ⟨rfl, Below.refl _ _⟩
end Go.Proofs.Ytbbbmmemfndnlaa
/- Contracts over values: the laws' own copy of a value, in cells that were never shared with a text. -/
namespace Go.Proofs.Ytbbbmmemfndnlaa
open Go.RowKit
/-- a value's names in another place -/
def Hd.to (h : Hd) (b : Nat) : Hd := ⟨h.k, h.m, h.e, h.t, some ⟨b, 0, none⟩, h.ns.length, h.ns⟩
end Go.Proofs.Ytbbbmmemfndnlaa
/- Maps whose keys are places of lists: when two keys are the same. -/
namespace Go.Proofs.Ytbbbmmemfndnlaa
open Go.RowKit
/-- where a list lies: nowhere, if it is empty -/
abbrev Pl := Option Addr × Nat
/-- where two lists lie -/
abbrev Pl2 := Pl × Pl
/-- a map of keys that can be held against each other -/
structure Keys (K : Type) [DecidableEq K] (P : Program) (kt : TypeId) where
  kv : K → Value
  ok : World → K → Prop
  wide : (match P.underlying kt with | some (.array _ _) | some (.struct _) => true | _ => false) = true
  eq : ∀ w x y, ok w x → ok w y → (Op.equal kt (kv x) (kv y)).run P w = .ok (decide (x = y)) w
  check : ∀ w em x, (Instr.checkKey em 10000 kt (kv x)).run P w = .ok () w
  bits : ∀ x, Instr.sameBits 10000 (kv x) (kv x) = true
section
variable {K : Type} [DecidableEq K] {P : Program} {kt : TypeId} (Q : Keys K P kt)
/-- block b is the map of these keys and values -/
def Keys.Is (w : World) (b : Nat) (L : List (K × Value)) : Prop := ∃ es clock, w.heap[b]? = some (.map es clock) ∧ es.toList.map (fun e => (e.key, e.val)) = L.map (fun p => (Q.kv p.1, p.2))
def seekL (x : K) : List (K × Value) → Nat → Option (Nat × Value)
  | [], _ => none
  | (k, v) :: t, i => if x = k then some (i, v) else seekL x t (i + 1)
def getL (x : K) : List (K × Value) → Option Value
  | [] => none
  | (k, v) :: t => if x = k then some v else getL x t
def putL (x : K) (v : Value) : List (K × Value) → List (K × Value)
  | [] => [(x, v)]
  | (k, u) :: t => if x = k then (x, v) :: t else (k, u) :: putL x v t
theorem seekL_get (x : K) : ∀ (L : List (K × Value)) (i : Nat), (seekL x L i).map Prod.snd = getL x L := by
  intro L
  induction L with
  | nil => intro i; rfl
  | cons p t ih =>
    obtain ⟨k, v⟩ := p
    intro i
    unfold seekL getL
    split
    · rfl
    · exact ih (i + 1)
theorem getL_put (x y : K) (v : Value) : ∀ (L : List (K × Value)), getL y (putL x v L) = if y = x then some v else getL y L := by
  intro L
  induction L with
  | nil => unfold putL getL; split <;> simp_all [getL]
  | cons p t ih =>
    obtain ⟨k, u⟩ := p
    unfold putL
    by_cases h : x = k
    · subst h
      rw [if_pos rfl]
      show (if y = x then some v else getL y t) = if y = x then some v else (if y = x then some u else getL y t)
      by_cases h2 : y = x <;> simp [h2]
    · rw [if_neg h]
      show (if y = k then some u else getL y (putL x v t)) = if y = x then some v else (if y = k then some u else getL y t)
      rw [ih]
      by_cases h2 : y = k
      · subst h2; rw [if_pos rfl, if_neg (fun e => h e.symm), if_pos rfl]
      · rw [if_neg h2, if_neg h2]
theorem Keys.asking (w : World) (x : K) (hx : Q.ok w x) : ∀ (L : List (K × Value)) (es : List MapEntry) (i : Nat), (∀ p ∈ L, Q.ok w p.1) → es.map (fun e => (e.key, e.val)) = L.map (fun p => (Q.kv p.1, p.2)) → (Instr.findAsking kt (Q.kv x) es i).run P w = .ok (seekL x L i) w := by
  intro L
  induction L with
  | nil =>
    intro es i _ h
    have : es = [] := by cases es with | nil => rfl | cons e es => simp at h
    subst this
    simp [Instr.findAsking, seekL]
  | cons p t ih =>
    obtain ⟨k, v⟩ := p
    intro es i hok h
    cases es with
    | nil => simp at h
    | cons e es =>
      simp only [List.map_cons, List.cons.injEq, Prod.mk.injEq] at h
      obtain ⟨⟨h1, h2⟩, h3⟩ := h
      have he := Q.eq w x k hx (hok (k, v) List.mem_cons_self)
      rw [← h1] at he
      have hi := ih es (i + 1) (fun p hp => hok p (List.mem_cons_of_mem _ hp)) h3
      by_cases hk : x = k
      · subst hk
        rw [decide_eq_true rfl] at he
        simp [Instr.findAsking, he, seekL, h2]
      · have hd : decide (x = k) = false := decide_eq_false hk
        rw [hd] at he
        simp [Instr.findAsking, he, seekL, hk, hi]
theorem Keys.find (w : World) (x : K) (hx : Q.ok w x) (L : List (K × Value)) (es : List MapEntry) (hok : ∀ p ∈ L, Q.ok w p.1) (h : es.map (fun e => (e.key, e.val)) = L.map (fun p => (Q.kv p.1, p.2))) :
    (Instr.findKey kt (Q.kv x) es).run P w = .ok (seekL x L 0) w := by
  rw [run_findKey_eq w Q.wide]
  exact Q.asking w x hx L es 0 hok h
theorem Keys.look {mty et : TypeId} (hm : P.underlying mty = some (.map kt et)) {w : World} {b : Nat} {L : List (K × Value)} (x : K) (hx : Q.ok w x) (hok : ∀ p ∈ L, Q.ok w p.1) (hb : Q.Is w b L) {z : Value} (hz : (zeroValue et).run P w = .ok z w) :
    (Instr.lookup mty (.map (some b)) (Q.kv x) false).run P w = .ok ((getL x L).getD z) w := by
  obtain ⟨es, clock, hh, he⟩ := hb
  have hf := Q.find w x hx L es.toList hok he
  have hg := seekL_get x L 0
  cases h : seekL x L 0 with
  | none => rw [h] at hf hg; rw [← hg]; simp [Instr.lookup, run_underlying hm, MapKept.run_getObj_map hh, Q.check, hf, hz]
  | some p => obtain ⟨i, v⟩ := p; rw [h] at hf hg; rw [← hg]; simp [Instr.lookup, run_underlying hm, MapKept.run_getObj_map hh, Q.check, hf]
theorem seekL_some {x : K} : ∀ {L : List (K × Value)} {i j : Nat} {v : Value}, seekL x L i = some (j, v) → ∃ n u, j = i + n ∧ L[n]? = some (x, u) ∧ ∀ w, putL x w L = L.set n (x, w) := by
  intro L
  induction L with
  | nil => intro i j v h; cases h
  | cons p t ih =>
    obtain ⟨k, u⟩ := p
    intro i j v h
    unfold seekL at h
    by_cases hk : x = k
    · rw [if_pos hk] at h
      cases h
      subst hk
      exact ⟨0, _, rfl, rfl, fun w => by unfold putL; rw [if_pos rfl]; rfl⟩
    · rw [if_neg hk] at h
      obtain ⟨n, u', e1, e2, e3⟩ := ih h
      exact ⟨n + 1, u', by omega, by simpa using e2, fun w => by unfold putL; rw [if_neg hk, e3 w]; rfl⟩
theorem seekL_none {x : K} : ∀ {L : List (K × Value)} {i : Nat}, seekL x L i = none → ∀ w, putL x w L = L ++ [(x, w)] := by
  intro L
  induction L with
  | nil => intro i _ w; rfl
  | cons p t ih =>
    obtain ⟨k, u⟩ := p
    intro i h w
    unfold seekL at h
    by_cases hk : x = k
    · rw [if_pos hk] at h; cases h
    · rw [if_neg hk] at h
      unfold putL
      rw [if_neg hk, ih h w]; rfl
theorem Keys.put {mty et : TypeId} (hm : P.underlying mty = some (.map kt et)) {w : World} {b : Nat} {L : List (K × Value)} (x : K) (v : Value) (hx : Q.ok w x) (hok : ∀ p ∈ L, Q.ok w p.1) (hb : Q.Is w b L) :
    ∃ w', (Instr.mapUpdate mty (.map (some b)) (Q.kv x) v).run P w = .ok () w' ∧ Q.Is w' b (putL x v L) ∧ w.grownBy w' (some b) ∧ w'.heap.size = w.heap.size := by
  obtain ⟨es, clock, hh, he⟩ := hb
  have hf := Q.find w x hx L es.toList hok he
  have hlt := (Array.getElem?_eq_some_iff.1 hh).1
  cases h : seekL x L 0 with
  | none =>
    rw [h] at hf
    refine ⟨_, by simp [Instr.mapUpdate, run_underlying hm, MapKept.run_getObj_map hh, Q.check, hf, MapKept.run_setObj_map _ hh, Result.andThen]; rfl, ?_, ?_, by simp⟩
    · refine ⟨_, _, (MapKept.heap_set hh).1, ?_⟩
      rw [seekL_none h, Array.toList_push, List.map_append, he, List.map_append]
      rfl
    · exact ⟨rfl, rfl, rfl, by simp, fun i _ hi => (MapKept.heap_set hh).2 i (fun e => hi (by rw [e]))⟩
  | some p =>
    obtain ⟨j, u⟩ := p
    rw [h] at hf
    obtain ⟨n, u', e1, e2, e3⟩ := seekL_some h
    rw [Nat.zero_add] at e1
    subst e1
    have hkey : (es[j]?).map (·.key) = some (Q.kv x) := by
      have h1 : (es.toList.map (fun e => (e.key, e.val)))[j]? = some (Q.kv x, u') := by rw [he, List.getElem?_map, e2]; rfl
      rw [List.getElem?_map, Array.getElem?_toList] at h1
      cases hj : es[j]? with
      | none => rw [hj] at h1; cases h1
      | some e => rw [hj] at h1; simp only [Option.map_some, Option.some.injEq, Prod.mk.injEq] at h1; simp [h1.1]
    have hks : (Instr.keyThatStays (((es[j]?).map (·.key)).getD (Q.kv x)) (Q.kv x)).run P w = .ok (Q.kv x) w := by
      rw [hkey]
      simp [Instr.keyThatStays, Q.bits]
    refine ⟨_, by simp [Instr.mapUpdate, run_underlying hm, MapKept.run_getObj_map hh, Q.check, hf, hks, MapKept.run_setObj_map _ hh, Result.andThen]; rfl, ?_, ?_, by simp⟩
    · refine ⟨_, _, (MapKept.heap_set hh).1, ?_⟩
      rw [e3 v]
      apply List.ext_getElem?
      intro i
      have hi : (es.toList.map (fun e => (e.key, e.val)))[i]? = (L.map (fun p => (Q.kv p.1, p.2)))[i]? := by rw [he]
      rw [List.getElem?_map, List.getElem?_map, Array.getElem?_toList] at hi
      rw [List.getElem?_map, List.getElem?_map, Array.getElem?_toList, Array.getElem?_modify, List.getElem?_set]
      by_cases hij : j = i
      · subst hij
        have hl : j < L.length := (List.getElem?_eq_some_iff.1 e2).1
        rw [if_pos rfl, if_pos rfl, if_pos hl]
        cases hj : es[j]? with
        | none => rw [hj] at hkey; cases hkey
        | some e => rfl
      · rw [if_neg hij, if_neg hij]; exact hi
    · exact ⟨rfl, rfl, rfl, by simp, fun i _ hi => (MapKept.heap_set hh).2 i (fun e => hi (by rw [e]))⟩
theorem Keys.Is.grown {w w' : World} {b : Nat} {L : List (K × Value)} (h : Q.Is w b L) (hb : w'.heap[b]? = w.heap[b]?) : Q.Is w' b L := by
  obtain ⟨es, clock, hh, he⟩ := h
  exact ⟨es, clock, hb.trans hh, he⟩
end
end Go.Proofs.Ytbbbmmemfndnlaa
/- Two trees that are the same, by the program: places of lists, heads, pairs. -/
namespace Go.Proofs.Ytbbbmmemfndnlaa
open Go.RowKit
/-- what lies at one place with one length is one list -/
theorem Fo.from_inj {w : World} : ∀ (F G : Fo) (b o : Nat), F.From w b o → G.From w b o → F.len = G.len → F = G := by
  intro F
  induction F with
  | nil =>
    intro G b o _ _ h
    cases G with
    | nil => rfl
    | cons => exact absurd h.symm (Nat.succ_ne_zero _)
  | cons k t m e a c kids next ih1 ih2 =>
    intro G b o h1 h2 h
    cases G with
    | nil => exact absurd h (Nat.succ_ne_zero _)
    | cons k' t' m' e' a' c' kids' next' =>
      obtain ⟨⟨x0, x1, x2, x3, x4⟩, hk, _, _, _, hn⟩ := h1
      obtain ⟨⟨y0, y1, y2, y3, y4⟩, hk', _, _, _, hn'⟩ := h2
      rw [x0] at y0; rw [x1] at y1; rw [x2] at y2; rw [x3] at y3; rw [x4] at y4
      simp only [Option.some.injEq, Value.int.injEq, Value.string.injEq, Value.slice.injEq, true_and] at y0 y1 y2 y3 y4
      obtain ⟨ha, hl, hc⟩ := y4
      subst y0 y1 y2 y3 ha hc
      have hkk : kids = kids' := by
        rcases hk with hk | ⟨b', o', e1, hF⟩
        · subst hk
          cases kids' with
          | nil => rfl
          | cons => exact absurd hl.symm (Nat.succ_ne_zero _)
        · rcases hk' with hk' | ⟨b2, o2, e2, hG⟩
          · subst hk'
            cases kids with
            | nil => rfl
            | cons => exact absurd hl (Nat.succ_ne_zero _)
          · rw [e1] at e2
            cases e2
            exact ih1 _ _ _ hF hG hl
      subst hkk
      rw [ih2 next' b (o + 5) hn hn' (Nat.succ.inj h)]
/-- where a list lies -/
def plOf (a : Option Addr) (n : Nat) : Pl := if n = 0 then (none, 0) else (a, n)
/-- heads that are the same -/
def headSame (k : Int) (t : ByteArray) (m e : Int) (n : Nat) (k' : Int) (t' : ByteArray) (m' e' : Int) (n' : Nat) : Bool := decide (k = k') && (decide (t.toList = t'.toList) && ((decide (m = m') && decide (e = e')) && decide (n = n')))
theorem Fo.from_of_len' {F : Fo} {w : World} {a : Option Addr} (hin : F.In w a) {i : Nat} (hi : i < F.len) : ∃ b o, a = some ⟨b, o, none⟩ ∧ F.From w b o := by
  rcases hin with rfl | h
  · exact absurd hi (Nat.not_lt_zero _)
  · exact h
end Go.Proofs.Ytbbbmmemfndnlaa
/- Two trees that are the same: what the program's loop keeps, as plain mathematics. -/
namespace Go.Proofs.Ytbbbmmemfndnlaa
/-- a tree as it stands in a list: its head, where its list lies, that list -/
structure It where
  k : Int
  t : ByteArray
  m : Int
  e : Int
  a : Option Addr
  F : Fo
  c : Nat
def It.cells (x : It) : List Value := [.int .i64 x.k, .string x.t, .int .i64 x.m, .int .i64 x.e, .slice x.a x.F.len x.c]
def Fo.itAt (F : Fo) (i : Nat) : It := ⟨F.kindAt i, F.textAt i, F.manAt i, F.expAt i, F.addrAt i, F.kidsAt i, F.capAt i⟩
abbrev It2 := It × It
def hsame (p : It2) : Bool := headSame p.1.k p.1.t p.1.m p.1.e p.1.F.len p.2.k p.2.t p.2.m p.2.e p.2.F.len
/-- two trees are the same but for where they lie -/
def same2 (p : It2) : Prop := (p.1.k = p.2.k ∧ p.1.t = p.2.t ∧ p.1.m = p.2.m ∧ p.1.e = p.2.e) ∧ p.1.F.alike p.2.F
theorem bytes_ext {a b : ByteArray} (h : a.toList = b.toList) : a = b := by
  rw [ByteArray.toList_eq, ByteArray.toList_eq] at h
  cases a; cases b; simpa using h
theorem hsame_iff (p : It2) : hsame p = true ↔ (p.1.k = p.2.k ∧ p.1.t = p.2.t ∧ p.1.m = p.2.m ∧ p.1.e = p.2.e) ∧ p.1.F.len = p.2.F.len := by
  unfold hsame headSame
  simp only [Bool.and_eq_true, decide_eq_true_eq]
  constructor
  · rintro ⟨h1, h2, ⟨h3, h4⟩, h5⟩; exact ⟨⟨h1, bytes_ext h2, h3, h4⟩, h5⟩
  · rintro ⟨⟨h1, h2, h3, h4⟩, h5⟩; exact ⟨h1, by rw [h2], ⟨h3, h4⟩, h5⟩
theorem alike_kids : ∀ {G F : Fo}, F.alike G → ∀ i, i < F.len → same2 (F.itAt i, G.itAt i) := by
  intro G
  induction G with
  | nil => intro F h i hi; rw [Fo.alike_nil h] at hi; exact absurd hi (Nat.not_lt_zero _)
  | cons k t m e a c kids next _ ih =>
    intro F h i hi
    obtain ⟨a', c', kids', next', rfl, h1, h2⟩ := Fo.alike_cons h
    cases i with
    | zero => exact ⟨⟨rfl, rfl, rfl, rfl⟩, h1⟩
    | succ i => exact ih h2 i (Nat.lt_of_succ_lt_succ hi)
theorem alike_of_kids : ∀ {F G : Fo}, F.len = G.len → (∀ i, i < F.len → same2 (F.itAt i, G.itAt i)) → F.alike G := by
  intro F
  induction F with
  | nil => intro G h _; cases G with
    | nil => trivial
    | cons => exact absurd h.symm (Nat.succ_ne_zero _)
  | cons k t m e a c kids next _ ih =>
    intro G h hk
    cases G with
    | nil => exact absurd h (Nat.succ_ne_zero _)
    | cons k' t' m' e' a' c' kids' next' =>
      obtain ⟨h1, h2⟩ := hk 0 (Nat.succ_pos _)
      exact ⟨h1, h2, ih (Nat.succ.inj h) fun i hi => hk (i + 1) (Nat.succ_lt_succ hi)⟩
/-- what is closed is the same all through -/
theorem closed_same (X : It2 → Prop) (h : ∀ p, X p → hsame p = true ∧ ∀ i, i < p.1.F.len → X (p.1.F.itAt i, p.2.F.itAt i)) (N : Nat) : ∀ p, p.1.F.size < N → X p → same2 p := by
  induction N with
  | zero => intro p hp; omega
  | succ N ih =>
    intro p hp hX
    obtain ⟨h1, h2⟩ := h p hX
    obtain ⟨h3, h4⟩ := (hsame_iff p).1 h1
    exact ⟨h3, alike_of_kids h4 fun i hi => ih _ (by have := Fo.size_at hi; show (p.1.F.kidsAt i).size < N; omega) (h2 i hi)⟩
/-- where a tree's list lies -/
def It.pl (x : It) : Pl := plOf x.a x.F.len
theorem pl_inj {w : World} {x y : It} (hx : x.F.In w x.a) (hy : y.F.In w y.a) (h : x.pl = y.pl) : x.F = y.F := by
  unfold It.pl plOf at h
  by_cases h1 : x.F.len = 0
  · rw [if_pos h1] at h
    by_cases h2 : y.F.len = 0
    · have e1 : x.F = .nil := by cases hF : x.F with
        | nil => rfl
        | cons => rw [hF] at h1; exact absurd h1 (Nat.succ_ne_zero _)
      have e2 : y.F = .nil := by cases hF : y.F with
        | nil => rfl
        | cons => rw [hF] at h2; exact absurd h2 (Nat.succ_ne_zero _)
      rw [e1, e2]
    · rw [if_neg h2] at h
      exact absurd (congrArg Prod.snd h).symm h2
  · rw [if_neg h1] at h
    by_cases h2 : y.F.len = 0
    · rw [if_pos h2] at h
      exact absurd (congrArg Prod.snd h) h1
    · rw [if_neg h2] at h
      have ha : x.a = y.a := congrArg Prod.fst h
      have hl : x.F.len = y.F.len := congrArg Prod.snd h
      obtain ⟨b, o, e1, f1⟩ := Fo.from_of_len' hx (show 0 < x.F.len by omega)
      obtain ⟨b', o', e2, f2⟩ := Fo.from_of_len' hy (show 0 < y.F.len by omega)
      rw [ha, e2] at e1
      cases e1
      exact Fo.from_inj _ _ _ _ f1 f2 hl
/-- the pairs of two lists -/
def kidPairs (F G : Fo) : Nat → List It2
  | 0 => []
  | n + 1 => kidPairs F G n ++ [(F.itAt n, G.itAt n)]
theorem kidPairs_mem {F G : Fo} {n : Nat} {p : It2} : p ∈ kidPairs F G n ↔ ∃ i, i < n ∧ p = (F.itAt i, G.itAt i) := by
  induction n with
  | zero =>
    constructor
    · intro h; exact absurd h (List.not_mem_nil)
    · rintro ⟨i, h, _⟩; exact absurd h (Nat.not_lt_zero _)
  | succ n ih =>
    show p ∈ kidPairs F G n ++ [(F.itAt n, G.itAt n)] ↔ _
    rw [List.mem_append, ih, List.mem_singleton]
    constructor
    · rintro (⟨i, hi, h⟩ | h)
      · exact ⟨i, by omega, h⟩
      · exact ⟨n, by omega, h⟩
    · rintro ⟨i, hi, h⟩
      rcases Nat.lt_succ_iff_lt_or_eq.1 hi with hi | rfl
      · exact .inl ⟨i, hi, h⟩
      · exact .inr h
/-- how much is to be done -/
def wsum : List It2 → Nat
  | [] => 0
  | p :: t => p.1.F.size + 1 + wsum t
theorem wsum_append (A B : List It2) : wsum (A ++ B) = wsum A + wsum B := by
  induction A with
  | nil => show wsum B = 0 + wsum B; omega
  | cons p t ih => show p.1.F.size + 1 + wsum (t ++ B) = p.1.F.size + 1 + wsum t + wsum B; omega
def Fo.upTo (F : Fo) : Nat → Nat
  | 0 => 0
  | n + 1 => F.upTo n + ((F.kidsAt n).size + 1)
theorem wsum_kids (F G : Fo) (n : Nat) : wsum (kidPairs F G n) = F.upTo n := by
  induction n with
  | zero => rfl
  | succ n ih => show wsum (kidPairs F G n ++ [(F.itAt n, G.itAt n)]) = F.upTo n + ((F.kidsAt n).size + 1); rw [wsum_append, ih]; rfl
theorem upTo_next (k : Int) (t : ByteArray) (m e : Int) (a : Option Addr) (c : Nat) (kids next : Fo) (n : Nat) : (Fo.cons k t m e a c kids next).upTo (n + 1) = kids.size + 1 + next.upTo n := by
  induction n with
  | zero => show 0 + (kids.size + 1) = kids.size + 1 + 0; omega
  | succ n ih => show (Fo.cons k t m e a c kids next).upTo (n + 1) + ((next.kidsAt n).size + 1) = kids.size + 1 + (next.upTo n + ((next.kidsAt n).size + 1)); omega
theorem upTo_len (F : Fo) : F.upTo F.len = F.size := by
  induction F with
  | nil => rfl
  | cons k t m e a c kids next _ ih => show (Fo.cons k t m e a c kids next).upTo (next.len + 1) = kids.size + 1 + next.size; rw [upTo_next, ih]
/-- what the loop keeps: S is to be done, L was met, D is done -/
structure Loop (w : World) (top : It2) (T : Nat) (S : List It2) (L : List (Pl2 × Value)) (D : List It2) : Prop where
  fwd : same2 top → ∀ p ∈ S, same2 p
  heads : ∀ p ∈ D, hsame p = true
  closed : ∀ p ∈ D, ∀ i, i < p.1.F.len → (p.1.F.itAt i, p.2.F.itAt i) ∈ D ∨ (p.1.F.itAt i, p.2.F.itAt i) ∈ S
  has : top ∈ D ∨ top ∈ S
  keys : ∀ x v, getL x L = some v → ∃ p ∈ D, x = (p.1.pl, p.2.pl)
  vals : ∀ x v, getL x L = some v → ∃ n : Nat, v = .int .i64 n ∧ 1 ≤ n ∧ n ≤ D.length
  room : D.length + wsum S ≤ T
  lie : ∀ p, p ∈ D ∨ p ∈ S → p.1.F.In w p.1.a ∧ p.2.F.In w p.2.a
theorem Loop.done {w : World} {top : It2} {T : Nat} {L : List (Pl2 × Value)} {D : List It2} (h : Loop w top T [] L D) : same2 top := by
  have ht : top ∈ D := by rcases h.has with h | h; exact h; cases h
  refine closed_same (fun p => p ∈ D) (fun p hp => ⟨h.heads p hp, fun i hi => ?_⟩) (top.1.F.size + 1) top (Nat.lt_succ_self _) ht
  rcases h.closed p hp i hi with h | h
  · exact h
  · cases h
theorem In_kid {w : World} {F : Fo} {a : Option Addr} (h : F.In w a) {i : Nat} (hi : i < F.len) : (F.kidsAt i).In w (F.addrAt i) := by
  obtain ⟨b, o, _, hF⟩ := Fo.from_of_len' h hi
  exact (Fo.from_at hF hi).2.1
theorem mem_move {S D : List It2} {p q : It2} (h : q ∈ D ∨ q ∈ S ++ [p]) : q ∈ p :: D ∨ q ∈ S := by
  rcases h with h | h
  · exact .inl (List.mem_cons_of_mem _ h)
  · rcases List.mem_append.1 h with h | h
    · exact .inr h
    · rw [List.mem_singleton] at h; subst h; exact .inl List.mem_cons_self
/-- a pair whose lists were met -/
theorem Loop.old {w : World} {top p : It2} {T : Nat} {S D : List It2} {L : List (Pl2 × Value)} (h : Loop w top T (S ++ [p]) L D) (hp : hsame p = true) {n : Nat} (hk : getL (p.1.pl, p.2.pl) L = some (.int .i64 n)) :
    Loop w top T S (putL (p.1.pl, p.2.pl) (.int .i64 ((n + 1 : Nat) : Int)) L) (p :: D) where
  fwd := fun ht q hq => h.fwd ht q (List.mem_append_left _ hq)
  heads := fun q hq => by
    rcases List.mem_cons.1 hq with rfl | hq
    · exact hp
    · exact h.heads q hq
  closed := fun q hq i hi => by
    rcases List.mem_cons.1 hq with rfl | hq
    · obtain ⟨r, hr, e⟩ := h.keys _ _ hk
      have hl := h.lie q (.inr (by simp))
      have hlr := h.lie r (.inl hr)
      have e1 : q.1.F = r.1.F := pl_inj hl.1 hlr.1 (congrArg Prod.fst e)
      have e2 : q.2.F = r.2.F := pl_inj hl.2 hlr.2 (congrArg Prod.snd e)
      rw [e1, e2]
      rw [e1] at hi
      exact mem_move (h.closed r hr i hi)
    · exact mem_move (h.closed q hq i hi)
  has := mem_move h.has
  keys := fun x v hx => by
    rw [getL_put] at hx
    by_cases hxk : x = (p.1.pl, p.2.pl)
    · exact ⟨p, List.mem_cons_self, hxk⟩
    · rw [if_neg hxk] at hx
      obtain ⟨q, hq, e⟩ := h.keys x v hx
      exact ⟨q, List.mem_cons_of_mem _ hq, e⟩
  vals := fun x v hx => by
    rw [getL_put] at hx
    by_cases hxk : x = (p.1.pl, p.2.pl)
    · rw [if_pos hxk] at hx
      cases hx
      obtain ⟨n', e1, e2, e3⟩ := h.vals _ _ hk
      have : n = n' := by cases e1; rfl
      subst this
      exact ⟨n + 1, rfl, by omega, by show n + 1 ≤ D.length + 1; omega⟩
    · rw [if_neg hxk] at hx
      obtain ⟨n', e1, e2, e3⟩ := h.vals x v hx
      exact ⟨n', e1, e2, by show n' ≤ D.length + 1; omega⟩
  room := by
    have := h.room
    rw [wsum_append] at this
    have e : wsum [p] = p.1.F.size + 1 + 0 := rfl
    show D.length + 1 + wsum S ≤ T
    omega
  lie := fun q hq => h.lie q (by
    rcases hq with hq | hq
    · rcases List.mem_cons.1 hq with rfl | hq
      · exact .inr (by simp)
      · exact .inl hq
    · exact .inr (List.mem_append_left _ hq))
/-- a pair whose lists were not met -/
theorem Loop.new {w : World} {top p : It2} {T : Nat} {S D : List It2} {L : List (Pl2 × Value)} (h : Loop w top T (S ++ [p]) L D) (hp : hsame p = true) :
    Loop w top T (S ++ kidPairs p.1.F p.2.F p.1.F.len) (putL (p.1.pl, p.2.pl) (.int .i64 1) L) (p :: D) where
  fwd := fun ht q hq => by
    rcases List.mem_append.1 hq with hq | hq
    · exact h.fwd ht q (List.mem_append_left _ hq)
    · obtain ⟨i, hi, rfl⟩ := kidPairs_mem.1 hq
      exact alike_kids (h.fwd ht p (by simp)).2 i hi
  heads := fun q hq => by
    rcases List.mem_cons.1 hq with rfl | hq
    · exact hp
    · exact h.heads q hq
  closed := fun q hq i hi => by
    rcases List.mem_cons.1 hq with rfl | hq
    · exact .inr (List.mem_append_right _ (kidPairs_mem.2 ⟨i, hi, rfl⟩))
    · rcases mem_move (h.closed q hq i hi) with h | h
      · exact .inl h
      · exact .inr (List.mem_append_left _ h)
  has := by
    rcases mem_move h.has with h | h
    · exact .inl h
    · exact .inr (List.mem_append_left _ h)
  keys := fun x v hx => by
    rw [getL_put] at hx
    by_cases hxk : x = (p.1.pl, p.2.pl)
    · exact ⟨p, List.mem_cons_self, hxk⟩
    · rw [if_neg hxk] at hx
      obtain ⟨q, hq, e⟩ := h.keys x v hx
      exact ⟨q, List.mem_cons_of_mem _ hq, e⟩
  vals := fun x v hx => by
    rw [getL_put] at hx
    by_cases hxk : x = (p.1.pl, p.2.pl)
    · rw [if_pos hxk] at hx
      cases hx
      exact ⟨1, rfl, by omega, by show 1 ≤ D.length + 1; omega⟩
    · rw [if_neg hxk] at hx
      obtain ⟨n', e1, e2, e3⟩ := h.vals x v hx
      exact ⟨n', e1, e2, by show n' ≤ D.length + 1; omega⟩
  room := by
    have := h.room
    rw [wsum_append] at this ⊢
    rw [wsum_kids, upTo_len]
    have e : wsum [p] = p.1.F.size + 1 + 0 := rfl
    show D.length + 1 + (wsum S + p.1.F.size) ≤ T
    omega
  lie := fun q hq => by
    rcases hq with hq | hq
    · rcases List.mem_cons.1 hq with rfl | hq
      · exact h.lie q (.inr (by simp))
      · exact h.lie q (.inl hq)
    · rcases List.mem_append.1 hq with hq | hq
      · exact h.lie q (.inr (List.mem_append_left _ hq))
      · obtain ⟨i, hi, rfl⟩ := kidPairs_mem.1 hq
        have hl := h.lie p (.inr (by simp))
        have hlen := ((hsame_iff p).1 hp).2
        exact ⟨In_kid hl.1 hi, In_kid hl.2 (by omega)⟩
end Go.Proofs.Ytbbbmmemfndnlaa
/- TreeSame of the specification. -/
namespace Go.Proofs.Ytbbbmmemfndnlaa
open Go.RowKit
end Go.Proofs.Ytbbbmmemfndnlaa
/- Values: a value put into an object, by the specification: the two regions with three appends each. -/
namespace Go.Proofs.Ytbbbmmemfndnlaa
open Go.RowKit
theorem textInfo : (Try.prog.info? 9).map (fun i => (i.zero, i.size, i.bytes)) = some (some (.string ⟨#[]⟩), 1, 16) := by kernel_rfl
theorem own_nothing (W : World) (B size : Nat) (e : TypeId) (hB : B ≤ W.heap.size) : (W.alloc (.cells #[] e)).ownsRow B e size (.slice (some ⟨W.heap.size, 0, none⟩) 0 0) 0 [] := World.ownsRow_lit W #[] 0 hB (by unfold maxLen; omega) (by simp)
/-- cells in a block of their own -/
def Own0 (w : World) (B g : Nat) (L : List Value) : Prop := B ≤ g ∧ g < w.heap.size ∧ ∀ i v, L[i]? = some v → w.cell? ⟨g, i, none⟩ = some v
theorem Own0.new (w : World) (B : Nat) (L : List Value) (T : TypeId) (h : B ≤ w.heap.size) : Own0 (w.alloc (.cells L.toArray T)) B w.heap.size L := ⟨h, by simp, fun i v hi => by rw [World.cell?_alloc_new]; simpa using hi⟩
theorem Own0.below {w w' : World} {B g : Nat} {L : List Value} (h : Own0 w B g L) (hb : Below w.heap.size w w') : Own0 w' B g L := ⟨h.1, Nat.lt_of_lt_of_le h.2.1 hb.size, fun i v hi => (hb.cell (p := ⟨g, i, none⟩) h.2.1).trans (h.2.2 i v hi)⟩
theorem Own0.grown {w w' : World} {B g : Nat} {L : List Value} {r : Option Nat} (h : Own0 w B g L) (hg : w.grownBy w' r) (hr : r ≠ some g) : Own0 w' B g L := ⟨h.1, Nat.lt_of_lt_of_le h.2.1 hg.size, fun i v hi => hg.cell (h.2.2 i v hi) (fun e => hr e.symm)⟩
theorem Own0.src {w : World} {B g : Nat} {L : List Value} (h : Own0 w B g L) (m : Nat) : Src w (some ⟨g, 0, none⟩) m L := .inr ⟨_, rfl, fun j u hj => by rw [addr_add, Nat.zero_add]; exact h.2.2 j u hj⟩
theorem own_keep {w w' : World} {base : Nat} {e : TypeId} {size : Nat} {v : Value} {n : Nat} {xs : List Value} (h : w.ownsRow base e size v n xs) (hb : Below w.heap.size w w') : w'.ownsRow base e size v n xs := by
  obtain ⟨h1, h2⟩ := h
  refine ⟨h1, ?_⟩
  rcases h2 with h2 | ⟨g, cap, cur, e1, e2, e3, e4, e5, e6, e7⟩
  · exact .inl h2
  · exact .inr ⟨g, cap, cur, e1, e2, by rw [hb.block g (Array.getElem?_eq_some_iff.1 e3).1]; exact e3, e4, e5, e6, e7⟩
end Go.Proofs.Ytbbbmmemfndnlaa
/- A text put among others, by the specification: the region with three appends. -/
namespace Go.Proofs.Ytbbbmmemfndnlaa
open Go.RowKit
set_option maxRecDepth 100000 in
set_option maxHeartbeats 2000000 in
theorem lp6 {Q : Exit → Act → World → Prop} {t2 t3 t4 t6 t7 t8 t9 t10 t11 t12 t13 t14 t15 t16 t17 t18 t19 t20 t21 t22 t23 t24 t25 t26 t27 t28 t29 t30 t31 t32 t33 t34 t35 t36 t37 t38 t39 t40 t41 t42 t43 t44 : Value} {W : World} {k n : Nat} {na : Option Addr} {nc : Nat} {L : List Value} {s : ByteArray}
    (hL : Lies W na L) (hl : L.length = n * 1) (h1 : ∀ u ∈ L, u.oneCell' = true) (hn : n ≤ nc ∧ nc ≤ maxLen) (hk : k ≤ n) (hN : n ≤ 1100000)
    (hp : ∀ p d v a w, Q (.panic p) (Act.put a d v) w → Q (.panic p) a w) (h : ∀ W1 v' v33 v34 v35 v36 v37 v38 v39 v40 v41 v42 v43, Below W.heap.size W W1 → W1.ownsRow W.heap.size 9 1 v' (n + 1) (L.take (k * 1) ++ ([Value.string s] ++ L.drop (k * 1))) → Q .normal { tmps := (.slice na n nc :: .string s :: t2 :: t3 :: v' :: .int .i64 (k : Nat) :: t6 :: t7 :: t8 :: t9 :: t10 :: t11 :: t12 :: t13 :: t14 :: t15 :: t16 :: t17 :: t18 :: t19 :: t20 :: t21 :: t22 :: t23 :: t24 :: t25 :: t26 :: t27 :: t28 :: t29 :: t30 :: t31 :: t32 :: v33 :: v34 :: v35 :: v36 :: v37 :: v38 :: v39 :: v40 :: v41 :: v42 :: v43 :: v' :: []).toArray, defers := [] } W1) :
    Code.wp Try.prog (Code.region 6 #[{ dst := some 33, op := Op.buildSlice 28 0 #[], type := 28, pos := "l6_scope.go:14", after := #[], guard := none }, { dst := some 34, op := Op.move (Operand.tmp 0), type := 28, pos := "l6_scope.go:14", after := #[], guard := none }, { dst := some 35, op := Op.move (Operand.tmp 5), type := 3, pos := "l6_scope.go:14", after := #[], guard := none }, { dst := some 36, op := Op.slice 28 (Operand.tmp 34) none (some (Operand.tmp 35)) none, type := 28, pos := "l6_scope.go:14", after := #[{ on := 1, ground := Ground.data }, { on := 2, ground := Ground.data }], guard := none }, { dst := some 37, op := Op.call { callee := Callee.builtin Builtin.append, args := #[Operand.tmp 33, Operand.tmp 36], argTypes := #[28, 28] }, type := 28, pos := "l6_scope.go:14", after := #[{ on := 0, ground := Ground.data }, { on := 3, ground := Ground.data }], guard := none }, { dst := some 38, op := Op.move (Operand.tmp 1), type := 9, pos := "l6_scope.go:14", after := #[], guard := none }, { dst := some 39, op := Op.buildSlice 28 1 #[(0, Operand.tmp 38)], type := 28, pos := "l6_scope.go:14", after := #[{ on := 5, ground := Ground.data }], guard := none }, { dst := some 40, op := Op.call { callee := Callee.builtin Builtin.append, args := #[Operand.tmp 37, Operand.tmp 39], argTypes := #[28, 28] }, type := 28, pos := "l6_scope.go:14", after := #[{ on := 4, ground := Ground.data }, { on := 6, ground := Ground.data }, { on := 4, ground := Ground.chain }], guard := none }, { dst := some 41, op := Op.move (Operand.tmp 0), type := 28, pos := "l6_scope.go:14", after := #[], guard := none }, { dst := some 42, op := Op.move (Operand.tmp 5), type := 3, pos := "l6_scope.go:14", after := #[], guard := none }, { dst := some 43, op := Op.slice 28 (Operand.tmp 41) (some (Operand.tmp 42)) none none, type := 28, pos := "l6_scope.go:14", after := #[{ on := 8, ground := Ground.data }, { on := 9, ground := Ground.data }], guard := none }, { dst := some 44, op := Op.call { callee := Callee.builtin Builtin.append, args := #[Operand.tmp 40, Operand.tmp 43], argTypes := #[28, 28] }, type := 28, pos := "l6_scope.go:14", after := #[{ on := 7, ground := Ground.data }, { on := 10, ground := Ground.data }, { on := 7, ground := Ground.chain }], guard := none }, { dst := some 4, op := Op.assign (Operand.tmp 44), type := 28, pos := "l6_scope.go:14", after := #[{ on := 11, ground := Ground.data }, { on := 11, ground := Ground.chain }, { on := 0, ground := Ground.phase }, { on := 1, ground := Ground.phase }, { on := 2, ground := Ground.phase }, { on := 3, ground := Ground.phase }, { on := 4, ground := Ground.phase }, { on := 5, ground := Ground.phase }, { on := 6, ground := Ground.phase }, { on := 7, ground := Ground.phase }, { on := 8, ground := Ground.phase }, { on := 9, ground := Ground.phase }, { on := 10, ground := Ground.phase }, { on := 11, ground := Ground.phase }], guard := none }] true) Q { tmps := (.slice na n nc :: .string s :: t2 :: t3 :: t4 :: .int .i64 (k : Nat) :: t6 :: t7 :: t8 :: t9 :: t10 :: t11 :: t12 :: t13 :: t14 :: t15 :: t16 :: t17 :: t18 :: t19 :: t20 :: t21 :: t22 :: t23 :: t24 :: t25 :: t26 :: t27 :: t28 :: t29 :: t30 :: t31 :: t32 :: t33 :: t34 :: t35 :: t36 :: t37 :: t38 :: t39 :: t40 :: t41 :: t42 :: t43 :: t44 :: []).toArray, defers := [] } W := by
  obtain ⟨i0, hi, hz0, hz1, hz2⟩ := info_parts textInfo
  obtain ⟨hn1, hn2⟩ := hn
  unfold maxLen at hn2
  have HT : Hid (∀ w', Below W.heap.size W w' → Src w' na k (L.take (k * 1))) := fun w' h => Lies.take0 (hL.grow h) hl (by omega) k hk
  have HD : Hid (∀ w', Below W.heap.size W w' → Src w' (if nc = k then na else na.map (fun x => x.add k)) (n - k) (L.drop (k * 1))) := fun w' h => by have := Lies.drop (hL.grow h) hl (by omega) k nc hn1; simpa using this
  have HL : Hid ((L.take (k * 1)).length = k * 1 ∧ (L.drop (k * 1)).length = (n - k) * 1) := ⟨by rw [List.length_take, hl]; exact Nat.min_eq_left (Nat.mul_le_mul_right _ hk), by rw [List.length_drop, hl, Nat.sub_mul]⟩
  have H1 : Hid ((∀ u ∈ L.take (k * 1), u.oneCell' = true) ∧ (∀ u ∈ L.drop (k * 1), u.oneCell' = true)) := ⟨fun u hu => h1 u (List.mem_of_mem_take hu), fun u hu => h1 u (List.mem_of_mem_drop hu)⟩
  clear hL hl h1
  have hB0 : Below W.heap.size W W.drew := (Below.refl _ W).drew
  refine wp_region_held_drew (S := fun _ => True) (by kernel_rfl) trivial (fun _ => ?_)
  generalize W.drew = Wd at *
  have hSw : (fun _ : World => True) Wd := trivial
  refine wpAnyH_take (i := 1) (v := .slice na n nc) rfl (by kernel_rfl) (by kernel_rfl) (by kernel_rfl) (fun _ _ _ h => hp _ _ _ _ _ h) (Or.inl ⟨by rfl, ?_⟩) (by assumption) ?_
  · intro w hSw
    (try dsimp only at hSw)
    go_simp
  (try simp only [Act.put, List.getElem_toArray, List.getElem_cons_zero, List.getElem_cons_succ, List.setIfInBounds_toArray, List.set_cons_zero, List.set_cons_succ])
  refine wpAnyH_take (i := 2) (v := .int .i64 (k : Nat)) rfl (by kernel_rfl) (by kernel_rfl) (by kernel_rfl) (fun _ _ _ h => hp _ _ _ _ _ h) (Or.inl ⟨by rfl, ?_⟩) (by assumption) ?_
  · intro w hSw
    (try dsimp only at hSw)
    go_simp
  (try simp only [Act.put, List.getElem_toArray, List.getElem_cons_zero, List.getElem_cons_succ, List.setIfInBounds_toArray, List.set_cons_zero, List.set_cons_succ])
  refine wpAnyH_take (i := 3) (v := .slice na k nc) rfl (by kernel_rfl) (by kernel_rfl) (by kernel_rfl) (fun _ _ _ h => hp _ _ _ _ _ h) (Or.inl ⟨by rfl, ?_⟩) (by assumption) ?_
  · intro w hSw
    (try dsimp only at hSw)
    (go_simp <;> first | done | omega | (simp [sliced]; omega) | simp [sliced])
  (try simp only [Act.put, List.getElem_toArray, List.getElem_cons_zero, List.getElem_cons_succ, List.setIfInBounds_toArray, List.set_cons_zero, List.set_cons_succ])
  refine wpAnyH_take (i := 5) (v := .string s) rfl (by kernel_rfl) (by kernel_rfl) (by kernel_rfl) (fun _ _ _ h => hp _ _ _ _ _ h) (Or.inl ⟨by rfl, ?_⟩) (by assumption) ?_
  · intro w hSw
    (try dsimp only at hSw)
    go_simp
  (try simp only [Act.put, List.getElem_toArray, List.getElem_cons_zero, List.getElem_cons_succ, List.setIfInBounds_toArray, List.set_cons_zero, List.set_cons_succ])
  refine wpAnyH_take (i := 8) (v := .slice na n nc) rfl (by kernel_rfl) (by kernel_rfl) (by kernel_rfl) (fun _ _ _ h => hp _ _ _ _ _ h) (Or.inl ⟨by rfl, ?_⟩) (by assumption) ?_
  · intro w hSw
    (try dsimp only at hSw)
    go_simp
  (try simp only [Act.put, List.getElem_toArray, List.getElem_cons_zero, List.getElem_cons_succ, List.setIfInBounds_toArray, List.set_cons_zero, List.set_cons_succ])
  refine wpAnyH_take (i := 9) (v := .int .i64 (k : Nat)) rfl (by kernel_rfl) (by kernel_rfl) (by kernel_rfl) (fun _ _ _ h => hp _ _ _ _ _ h) (Or.inl ⟨by rfl, ?_⟩) (by assumption) ?_
  · intro w hSw
    (try dsimp only at hSw)
    go_simp
  (try simp only [Act.put, List.getElem_toArray, List.getElem_cons_zero, List.getElem_cons_succ, List.setIfInBounds_toArray, List.set_cons_zero, List.set_cons_succ])
  refine wpAnyH_take (i := 10) (v := .slice (if nc = k then na else na.map (fun x => x.add k)) (n - k) (nc - k)) rfl (by kernel_rfl) (by kernel_rfl) (by kernel_rfl) (fun _ _ _ h => hp _ _ _ _ _ h) (Or.inl ⟨by rfl, ?_⟩) (by assumption) ?_
  · intro w hSw
    (try dsimp only at hSw)
    (go_simp <;> first | done | omega | (simp [sliced]; omega) | simp [sliced])
  (try simp only [Act.put, List.getElem_toArray, List.getElem_cons_zero, List.getElem_cons_succ, List.setIfInBounds_toArray, List.set_cons_zero, List.set_cons_succ])
  clear hSw
  refine wpAnyH_ready (rs := [0, 6]) (by kernel_rfl) (by simp) ?_
  refine AllReadyH.cons rfl (fun K hK => ?_) (AllReadyH.cons rfl (fun K hK => ?_) AllReadyH.nil)
  · skip
    go_simp
    have hown := own_nothing Wd W.heap.size 1 9 hB0.size
    have hB1 := hB0.alloc hB0.size (.cells #[] 9)
    refine hK.out _ _ trivial (fun _ => ?_)
    clear hK K hB0
    have hB0 := hB1
    clear hB1
    obtain ⟨g0, hg0⟩ : ∃ g, Wd.heap.size = g := ⟨_, rfl⟩
    rw [hg0] at hown ⊢
    obtain ⟨vo, hvo⟩ : ∃ vo, vo = Value.slice (some ⟨g0, 0, none⟩) 0 0 := ⟨_, rfl⟩
    rw [← hvo] at hown ⊢
    clear hvo
    generalize Wd.alloc (.cells #[] 9) = W1 at *
    clear hg0
    refine wpAnyH_ready (rs := [4, 6]) (by kernel_rfl) (by simp) ?_
    refine AllReadyH.cons rfl (fun K hK => ?_) (AllReadyH.cons rfl (fun K hK => ?_) AllReadyH.nil)
    · skip
      refine wp_append_lie W1 _ _ 28 rfl W.heap.size 9 i0 _ 1 16 Try.underlying28 hi hz0 hz1 hz2 rfl (by decide) vo 0 [] rfl hown na k nc (L.take (k * 1)) rfl HL.out.1 (HT.out _ hB0) H1.out.1 (by unfold maxLen; omega) (by omega) hB0.size ?_
      intro vo2 W2 hown2 hgr hbl
      have hB1 := below_grown hB0 hown hgr hB0.size
      refine hK.out _ _ trivial (fun _ => ?_)
      clear hK K hB0 hown hgr hbl
      have hB0 := hB1
      clear hB1
      have hown := hown2
      clear hown2
      (try simp only [Act.put, List.getElem_toArray, List.getElem_cons_zero, List.getElem_cons_succ, List.setIfInBounds_toArray, List.set_cons_zero, List.set_cons_succ])
      rw [List.nil_append, Nat.zero_add] at hown
      refine wpAnyH_ready (rs := [6]) (by kernel_rfl) (by simp) ?_
      refine AllReadyH.cons rfl (fun K hK => ?_) AllReadyH.nil
      go_simp
      obtain ⟨g7, hg7⟩ : ∃ g, W2.heap.size = g := ⟨_, rfl⟩
      have hel : Own0 (W2.alloc (.cells #[.string s] 9)) W.heap.size W2.heap.size [Value.string s] := Own0.new W2 W.heap.size [.string s] 9 hB0.size
      have hown2 := own_keep hown ((Below.refl _ W2).alloc (Nat.le_refl _) (.cells #[.string s] 9))
      have hne : ∀ r, Value.ownBlock vo2 = some r → r ≠ g7 := fun r hr => by have := (hown.lt r hr).2; omega
      clear hown
      have hown := hown2
      clear hown2
      have hB1 := hB0.alloc hB0.size (.cells #[.string s] 9)
      refine hK.out _ _ trivial (fun _ => ?_)
      clear hK K hB0
      have hB0 := hB1
      clear hB1
      rw [hg7] at hel ⊢
      generalize W2.alloc (.cells #[.string s] 9) = W3 at *
      clear hg7
      refine wpAnyH_ready (rs := [7]) (by kernel_rfl) (by simp) ?_
      refine AllReadyH.cons rfl (fun K hK => ?_) AllReadyH.nil
      refine wp_append_lie W3 _ _ 28 rfl W.heap.size 9 i0 _ 1 16 Try.underlying28 hi hz0 hz1 hz2 rfl (by decide) vo2 k _ rfl hown (some ⟨g7, 0, none⟩) 1 1 [Value.string s] rfl rfl (hel.src 1) (fun u hu => by simp at hu; subst hu; rfl) (by unfold maxLen; omega) (by omega) hB0.size ?_
      intro vo3 W4 hown2 hgr _
      have hB1 := below_grown hB0 hown hgr hB0.size
      refine hK.out _ _ trivial (fun _ => ?_)
      clear hK K hB0 hown hgr hel hne
      have hB0 := hB1
      clear hB1
      have hown := hown2
      clear hown2
      (try simp only [Act.put, List.getElem_toArray, List.getElem_cons_zero, List.getElem_cons_succ, List.setIfInBounds_toArray, List.set_cons_zero, List.set_cons_succ])
      refine wpAnyH_ready (rs := [11]) (by kernel_rfl) (by simp) ?_
      refine AllReadyH.cons rfl (fun K hK => ?_) AllReadyH.nil
      refine wp_append_lie W4 _ _ 28 rfl W.heap.size 9 i0 _ 1 16 Try.underlying28 hi hz0 hz1 hz2 rfl (by decide) vo3 (k + 1) _ rfl hown (if nc = k then na else na.map (fun x => x.add k)) (n - k) (nc - k) (L.drop (k * 1)) rfl HL.out.2 (HD.out _ hB0) H1.out.2 (by unfold maxLen; omega) (by omega) hB0.size ?_
      intro v' W5 hown2 hgr _
      have hB1 := below_grown hB0 hown hgr hB0.size
      refine hK.out _ _ trivial (fun _ => ?_)
      clear hK K hB0 hown hgr
      (try simp only [Act.put, List.getElem_toArray, List.getElem_cons_zero, List.getElem_cons_succ, List.setIfInBounds_toArray, List.set_cons_zero, List.set_cons_succ])
      have hSw : (fun _ : World => True) W5 := trivial
      refine wpAnyH_take (i := 12) (v := v') rfl (by kernel_rfl) (by kernel_rfl) (by kernel_rfl) (fun _ _ _ h => hp _ _ _ _ _ h) (Or.inl ⟨by rfl, ?_⟩) (by assumption) ?_
      · intro w hSw
        (try dsimp only at hSw)
        go_simp
      (try simp only [Act.put, List.getElem_toArray, List.getElem_cons_zero, List.getElem_cons_succ, List.setIfInBounds_toArray, List.set_cons_zero, List.set_cons_succ])
      rw [show k + 1 + (n - k) = n + 1 by omega, List.append_assoc] at hown2
      refine wpAnyH_done (by kernel_rfl) ?_ _
      exact h _ _ _ _ _ _ _ _ _ _ _ _ _ hB1 hown2
    · skip
      go_simp
      obtain ⟨g7, hg7⟩ : ∃ g, W1.heap.size = g := ⟨_, rfl⟩
      have hel : Own0 (W1.alloc (.cells #[.string s] 9)) W.heap.size W1.heap.size [Value.string s] := Own0.new W1 W.heap.size [.string s] 9 hB0.size
      have hown2 := own_keep hown ((Below.refl _ W1).alloc (Nat.le_refl _) (.cells #[.string s] 9))
      have hne : ∀ r, Value.ownBlock vo = some r → r ≠ g7 := fun r hr => by have := (hown.lt r hr).2; omega
      clear hown
      have hown := hown2
      clear hown2
      have hB1 := hB0.alloc hB0.size (.cells #[.string s] 9)
      refine hK.out _ _ trivial (fun _ => ?_)
      clear hK K hB0
      have hB0 := hB1
      clear hB1
      rw [hg7] at hel ⊢
      generalize W1.alloc (.cells #[.string s] 9) = W6 at *
      clear hg7
      refine wpAnyH_ready (rs := [4]) (by kernel_rfl) (by simp) ?_
      refine AllReadyH.cons rfl (fun K hK => ?_) AllReadyH.nil
      refine wp_append_lie W6 _ _ 28 rfl W.heap.size 9 i0 _ 1 16 Try.underlying28 hi hz0 hz1 hz2 rfl (by decide) vo 0 [] rfl hown na k nc (L.take (k * 1)) rfl HL.out.1 (HT.out _ hB0) H1.out.1 (by unfold maxLen; omega) (by omega) hB0.size ?_
      intro vo2 W7 hown2 hgr hbl
      have hB1 := below_grown hB0 hown hgr hB0.size
      have hel2 := hel.grown hgr (fun e => hne _ e rfl)
      have hne2 : ∀ r, Value.ownBlock vo2 = some r → r ≠ g7 := fun r hr => by
        rcases hbl with hbl | hbl
        · exact hne r (hbl ▸ hr)
        · rw [hbl] at hr; cases hr; have := hel.2.1; omega
      refine hK.out _ _ trivial (fun _ => ?_)
      clear hK K hB0 hown hgr hbl hne hel
      have hB0 := hB1
      clear hB1
      have hown := hown2
      clear hown2
      (try simp only [Act.put, List.getElem_toArray, List.getElem_cons_zero, List.getElem_cons_succ, List.setIfInBounds_toArray, List.set_cons_zero, List.set_cons_succ])
      have hel := hel2
      have hne := hne2
      clear hel2 hne2
      rw [List.nil_append, Nat.zero_add] at hown
      refine wpAnyH_ready (rs := [7]) (by kernel_rfl) (by simp) ?_
      refine AllReadyH.cons rfl (fun K hK => ?_) AllReadyH.nil
      refine wp_append_lie W7 _ _ 28 rfl W.heap.size 9 i0 _ 1 16 Try.underlying28 hi hz0 hz1 hz2 rfl (by decide) vo2 k _ rfl hown (some ⟨g7, 0, none⟩) 1 1 [Value.string s] rfl rfl (hel.src 1) (fun u hu => by simp at hu; subst hu; rfl) (by unfold maxLen; omega) (by omega) hB0.size ?_
      intro vo3 W8 hown2 hgr _
      have hB1 := below_grown hB0 hown hgr hB0.size
      refine hK.out _ _ trivial (fun _ => ?_)
      clear hK K hB0 hown hgr hel hne
      have hB0 := hB1
      clear hB1
      have hown := hown2
      clear hown2
      (try simp only [Act.put, List.getElem_toArray, List.getElem_cons_zero, List.getElem_cons_succ, List.setIfInBounds_toArray, List.set_cons_zero, List.set_cons_succ])
      refine wpAnyH_ready (rs := [11]) (by kernel_rfl) (by simp) ?_
      refine AllReadyH.cons rfl (fun K hK => ?_) AllReadyH.nil
      refine wp_append_lie W8 _ _ 28 rfl W.heap.size 9 i0 _ 1 16 Try.underlying28 hi hz0 hz1 hz2 rfl (by decide) vo3 (k + 1) _ rfl hown (if nc = k then na else na.map (fun x => x.add k)) (n - k) (nc - k) (L.drop (k * 1)) rfl HL.out.2 (HD.out _ hB0) H1.out.2 (by unfold maxLen; omega) (by omega) hB0.size ?_
      intro v' W9 hown2 hgr _
      have hB1 := below_grown hB0 hown hgr hB0.size
      refine hK.out _ _ trivial (fun _ => ?_)
      clear hK K hB0 hown hgr
      (try simp only [Act.put, List.getElem_toArray, List.getElem_cons_zero, List.getElem_cons_succ, List.setIfInBounds_toArray, List.set_cons_zero, List.set_cons_succ])
      have hSw : (fun _ : World => True) W9 := trivial
      refine wpAnyH_take (i := 12) (v := v') rfl (by kernel_rfl) (by kernel_rfl) (by kernel_rfl) (fun _ _ _ h => hp _ _ _ _ _ h) (Or.inl ⟨by rfl, ?_⟩) (by assumption) ?_
      · intro w hSw
        (try dsimp only at hSw)
        go_simp
      (try simp only [Act.put, List.getElem_toArray, List.getElem_cons_zero, List.getElem_cons_succ, List.setIfInBounds_toArray, List.set_cons_zero, List.set_cons_succ])
      rw [show k + 1 + (n - k) = n + 1 by omega, List.append_assoc] at hown2
      refine wpAnyH_done (by kernel_rfl) ?_ _
      exact h _ _ _ _ _ _ _ _ _ _ _ _ _ hB1 hown2
  · skip
    go_simp
    obtain ⟨g7, hg7⟩ : ∃ g, Wd.heap.size = g := ⟨_, rfl⟩
    have hel : Own0 (Wd.alloc (.cells #[.string s] 9)) W.heap.size Wd.heap.size [Value.string s] := Own0.new Wd W.heap.size [.string s] 9 hB0.size
    have hB1 := hB0.alloc hB0.size (.cells #[.string s] 9)
    refine hK.out _ _ trivial (fun _ => ?_)
    clear hK K hB0
    have hB0 := hB1
    clear hB1
    rw [hg7] at hel ⊢
    generalize Wd.alloc (.cells #[.string s] 9) = W10 at *
    clear hg7
    refine wpAnyH_ready (rs := [0]) (by kernel_rfl) (by simp) ?_
    refine AllReadyH.cons rfl (fun K hK => ?_) AllReadyH.nil
    go_simp
    have hown := own_nothing W10 W.heap.size 1 9 hB0.size
    have hB1 := hB0.alloc hB0.size (.cells #[] 9)
    have hel2 := hel.below ((Below.refl _ W10).alloc (Nat.le_refl _) (.cells #[] 9))
    have hne : ∀ r, Value.ownBlock (.slice (some ⟨W10.heap.size, 0, none⟩) 0 0) = some r → r ≠ g7 := fun r hr => by simp [Value.ownBlock] at hr; have := hel.2.1; omega
    clear hel
    have hel := hel2
    clear hel2
    refine hK.out _ _ trivial (fun _ => ?_)
    clear hK K hB0
    have hB0 := hB1
    clear hB1
    obtain ⟨g0, hg0⟩ : ∃ g, W10.heap.size = g := ⟨_, rfl⟩
    rw [hg0] at hown hne ⊢
    obtain ⟨vo, hvo⟩ : ∃ vo, vo = Value.slice (some ⟨g0, 0, none⟩) 0 0 := ⟨_, rfl⟩
    rw [← hvo] at hown hne ⊢
    clear hvo
    generalize W10.alloc (.cells #[] 9) = W11 at *
    clear hg0
    refine wpAnyH_ready (rs := [4]) (by kernel_rfl) (by simp) ?_
    refine AllReadyH.cons rfl (fun K hK => ?_) AllReadyH.nil
    refine wp_append_lie W11 _ _ 28 rfl W.heap.size 9 i0 _ 1 16 Try.underlying28 hi hz0 hz1 hz2 rfl (by decide) vo 0 [] rfl hown na k nc (L.take (k * 1)) rfl HL.out.1 (HT.out _ hB0) H1.out.1 (by unfold maxLen; omega) (by omega) hB0.size ?_
    intro vo2 W12 hown2 hgr hbl
    have hB1 := below_grown hB0 hown hgr hB0.size
    have hel2 := hel.grown hgr (fun e => hne _ e rfl)
    have hne2 : ∀ r, Value.ownBlock vo2 = some r → r ≠ g7 := fun r hr => by
      rcases hbl with hbl | hbl
      · exact hne r (hbl ▸ hr)
      · rw [hbl] at hr; cases hr; have := hel.2.1; omega
    refine hK.out _ _ trivial (fun _ => ?_)
    clear hK K hB0 hown hgr hbl hne hel
    have hB0 := hB1
    clear hB1
    have hown := hown2
    clear hown2
    (try simp only [Act.put, List.getElem_toArray, List.getElem_cons_zero, List.getElem_cons_succ, List.setIfInBounds_toArray, List.set_cons_zero, List.set_cons_succ])
    have hel := hel2
    have hne := hne2
    clear hel2 hne2
    rw [List.nil_append, Nat.zero_add] at hown
    refine wpAnyH_ready (rs := [7]) (by kernel_rfl) (by simp) ?_
    refine AllReadyH.cons rfl (fun K hK => ?_) AllReadyH.nil
    refine wp_append_lie W12 _ _ 28 rfl W.heap.size 9 i0 _ 1 16 Try.underlying28 hi hz0 hz1 hz2 rfl (by decide) vo2 k _ rfl hown (some ⟨g7, 0, none⟩) 1 1 [Value.string s] rfl rfl (hel.src 1) (fun u hu => by simp at hu; subst hu; rfl) (by unfold maxLen; omega) (by omega) hB0.size ?_
    intro vo3 W13 hown2 hgr _
    have hB1 := below_grown hB0 hown hgr hB0.size
    refine hK.out _ _ trivial (fun _ => ?_)
    clear hK K hB0 hown hgr hel hne
    have hB0 := hB1
    clear hB1
    have hown := hown2
    clear hown2
    (try simp only [Act.put, List.getElem_toArray, List.getElem_cons_zero, List.getElem_cons_succ, List.setIfInBounds_toArray, List.set_cons_zero, List.set_cons_succ])
    refine wpAnyH_ready (rs := [11]) (by kernel_rfl) (by simp) ?_
    refine AllReadyH.cons rfl (fun K hK => ?_) AllReadyH.nil
    refine wp_append_lie W13 _ _ 28 rfl W.heap.size 9 i0 _ 1 16 Try.underlying28 hi hz0 hz1 hz2 rfl (by decide) vo3 (k + 1) _ rfl hown (if nc = k then na else na.map (fun x => x.add k)) (n - k) (nc - k) (L.drop (k * 1)) rfl HL.out.2 (HD.out _ hB0) H1.out.2 (by unfold maxLen; omega) (by omega) hB0.size ?_
    intro v' W14 hown2 hgr _
    have hB1 := below_grown hB0 hown hgr hB0.size
    refine hK.out _ _ trivial (fun _ => ?_)
    clear hK K hB0 hown hgr
    (try simp only [Act.put, List.getElem_toArray, List.getElem_cons_zero, List.getElem_cons_succ, List.setIfInBounds_toArray, List.set_cons_zero, List.set_cons_succ])
    have hSw : (fun _ : World => True) W14 := trivial
    refine wpAnyH_take (i := 12) (v := v') rfl (by kernel_rfl) (by kernel_rfl) (by kernel_rfl) (fun _ _ _ h => hp _ _ _ _ _ h) (Or.inl ⟨by rfl, ?_⟩) (by assumption) ?_
    · intro w hSw
      (try dsimp only at hSw)
      go_simp
    (try simp only [Act.put, List.getElem_toArray, List.getElem_cons_zero, List.getElem_cons_succ, List.setIfInBounds_toArray, List.set_cons_zero, List.set_cons_succ])
    rw [show k + 1 + (n - k) = n + 1 by omega, List.append_assoc] at hown2
    refine wpAnyH_done (by kernel_rfl) ?_ _
    exact h _ _ _ _ _ _ _ _ _ _ _ _ _ hB1 hown2
end Go.Proofs.Ytbbbmmemfndnlaa
/- Values: a value put into an object, by the specification: l2Has, l7Into. -/
namespace Go.Proofs.Ytbbbmmemfndnlaa
open Go.RowKit
attribute [local go_sem] cell_alloc_is frozen_alloc_is
theorem texts_ext {a b : ByteArray} (h : (a.toList == b.toList) = true) : a = b := by
  have h := eq_of_beq h
  rw [ByteArray.toList_eq, ByteArray.toList_eq] at h
  exact ByteArray.ext (Array.toList_inj.1 h)
/-- a text is among others -/
def hasT (s : ByteArray) (ss : List ByteArray) : Bool := ss.any (fun x => x.toList == s.toList)
theorem hasT_iff {s : ByteArray} {ss : List ByteArray} : hasT s ss = true ↔ s ∈ ss := by
  unfold hasT
  rw [List.any_eq_true]
  constructor
  · rintro ⟨x, hx, he⟩; rw [← texts_ext he]; exact hx
  · exact fun h => ⟨s, h, by simp⟩
set_option maxHeartbeats 400000 in
theorem l2Has_sin (ss : List ByteArray) (a : Option Addr) (c : Nat) (s : ByteArray) (w : World) (hs : SIn w ss a) (hn : ss.length ≤ 1100000) :
    Calls Try.prog 37 #[.slice a ss.length c, .string s] w fun e w' => e = .returned (.bool (hasT s ss)) ∧ w' = w := by
  go_enter Try.func37, Try.ntmps37
  go_wp2_with fail
  go_loop [5] (fun i => ∃ k : Nat, k ≤ ss.length ∧ i = .int .i64 k ∧ hasT s ss = hasT s (ss.drop k)) (fun i => ss.length - (intOf i).toNat)
  case atStart => exact ⟨0, Nat.zero_le _, rfl, by simp⟩
  case round =>
    obtain ⟨k, hk, rfl, hr⟩ := hrel
    have HR : Hid (hasT s ss = hasT s (ss.drop k)) := hr
    clear hr
    by_cases hlt : k < ss.length
    · rcases hs with rfl | ⟨b, o, rfl, hs⟩
      · exact absurd hlt (Nat.not_lt_zero _)
      obtain ⟨hck, _⟩ := hs.at (List.getElem?_eq_getElem hlt)
      have HS : Hid (ss.drop k = ss[k] :: ss.drop (k + 1)) := List.drop_eq_getElem_cons hlt
      have hlt' : (k : Int) < (ss.length : Int) := by omega
      clear hs
      generalize ss[k] = x at *
      cases hq : (x.toList == s.toList)
      · go_wp2_with fail
        go_round
        case rel =>
          refine ⟨k + 1, by omega, by go_num, ?_⟩
          rw [HR.out, HS.out]
          show ((x.toList == s.toList) || hasT s (ss.drop (k + 1))) = _
          rw [hq, Bool.false_or]
        case measure => simp [intOf]; omega
      · go_wp2_with fail
        go_ret
        refine ⟨congrArg (fun b => Ending.returned (.bool b)) ?_, rfl⟩
        rw [HR.out, HS.out]
        show true = ((x.toList == s.toList) || hasT s (ss.drop (k + 1)))
        rw [hq, Bool.true_or]
    · have he : k = ss.length := by omega
      subst he
      go_wp2_with fail
      go_ret
      refine ⟨congrArg (fun b => Ending.returned (.bool b)) ?_, rfl⟩
      rw [HR.out, List.drop_length]; rfl
theorem plc_at {s : ByteArray} : ∀ {ss : List ByteArray} {k : Nat}, plc s ss = k + plc s (ss.drop k) → ∀ x, ss[k]? = some x → (Op.bytesLess x.toList s.toList = true → plc s ss = k + 1 + plc s (ss.drop (k + 1))) ∧ (Op.bytesLess x.toList s.toList = false → plc s ss = k) := by
  intro ss k h x hx
  obtain ⟨hk, he⟩ := List.getElem?_eq_some_iff.1 hx
  rw [List.drop_eq_getElem_cons hk, he] at h
  have e : plc s (x :: ss.drop (k + 1)) = if Op.bytesLess x.toList s.toList then plc s (ss.drop (k + 1)) + 1 else 0 := rfl
  rw [e] at h
  constructor
  · intro hb
    rw [if_pos hb] at h
    omega
  · intro hb
    rw [if_neg (by rw [hb]; exact Bool.false_ne_true)] at h
    omega
theorem Cells6.setOther {w : World} {b o : Nat} {h : Hd} {v : Value} (x : Cells6 w b o h v) {j : Nat} (hj : ¬ b = j) (q : Nat) (u : Value) : Cells6 (w.setCell ⟨j, q, none⟩ u) b o h v :=
  x.mono fun o' u' hu => (World.cell?_setCell_other _ _ _ _ (fun e => hj (by simpa using congrArg Addr.block e.symm))).trans hu
end Go.Proofs.Ytbbbmmemfndnlaa
/- A text put among others, by the specification: l6Put. -/
namespace Go.Proofs.Ytbbbmmemfndnlaa
open Go.RowKit
attribute [local go_sem] cell_alloc_is frozen_alloc_is
/-- it stands where it belongs -/
def hasAt (s : ByteArray) (ss : List ByteArray) : Bool := match ss[plc s ss]? with
  | some x => x.toList == s.toList
  | none => false
/-- a text among others, ascending, once -/
def put1 (s : ByteArray) (ss : List ByteArray) : List ByteArray := if hasAt s ss = true then ss else insN s ss
theorem hasAt_some {s x : ByteArray} {ss : List ByteArray} (h : ss[plc s ss]? = some x) : hasAt s ss = (x.toList == s.toList) := by
  unfold hasAt; rw [h]
theorem put1_old {s x : ByteArray} {ss : List ByteArray} (h : ss[plc s ss]? = some x) (hq : (x.toList == s.toList) = true) : put1 s ss = ss := by
  unfold put1; rw [hasAt_some h]; exact if_pos hq
theorem put1_new {s : ByteArray} {ss : List ByteArray} (h : ∀ x, ss[plc s ss]? = some x → (x.toList == s.toList) = false) : put1 s ss = insN s ss := by
  unfold put1
  cases e : ss[plc s ss]? with
  | none => exact if_neg (by unfold hasAt; rw [e]; simp)
  | some x => exact if_neg (by rw [hasAt_some e, h x e]; simp)
theorem insN_len (s : ByteArray) (ss : List ByteArray) : (insN s ss).length = ss.length + 1 := by
  have := plc_le s ss
  unfold insN
  rw [List.length_append, List.length_cons, List.length_take, List.length_drop]; omega
theorem put1_len (s : ByteArray) (ss : List ByteArray) : (put1 s ss).length ≤ ss.length + 1 := by
  unfold put1
  split
  · omega
  · rw [insN_len]; omega
theorem put1_mem {s x : ByteArray} {ss : List ByteArray} (h : x ∈ put1 s ss) : x = s ∨ x ∈ ss := by
  unfold put1 at h
  split at h
  · exact .inr h
  · unfold insN at h
    rcases List.mem_append.1 h with h | h
    · exact .inr (List.mem_of_mem_take h)
    · rcases List.mem_cons.1 h with h | h
      · exact .inl h
      · exact .inr (List.mem_of_mem_drop h)
theorem insN_texts (s : ByteArray) (ss : List ByteArray) : texts (insN s ss) = (texts ss).take (plc s ss * 1) ++ ([Value.string s] ++ (texts ss).drop (plc s ss * 1)) := by
  unfold texts insN
  rw [List.map_append, List.map_cons, List.map_take, List.map_drop, Nat.mul_one]; rfl
set_option maxHeartbeats 1000000 in
theorem l6Put_any (ss : List ByteArray) (a : Option Addr) (c : Nat) (s : ByteArray) (w : World) (hs : SIn w ss a) (hc : ss.length ≤ c ∧ c ≤ maxLen) (hn : ss.length ≤ 1100000) (ht : s.size ≤ maxLen) :
    Calls Try.prog 51 #[.slice a ss.length c, .string s] w fun e w' => (∃ a' c', e = .returned (.slice a' (put1 s ss).length c') ∧ SIn w' (put1 s ss) a' ∧ ((put1 s ss).length ≤ c' ∧ c' ≤ maxLen)) ∧ Below w.heap.size w w' := by
  have HS : Hid (SIn w ss a) := hs
  have hcm : c ≤ 2 ^ 63 - 1 := hc.2
  have hcl := hc.1
  go_enter Try.func51, Try.ntmps51
  go_wp2_with fail
  go_loop [5] (fun i => ∃ k : Nat, k ≤ ss.length ∧ i = .int .i64 k ∧ plc s ss = k + plc s (ss.drop k)) (fun i => ss.length - (intOf i).toNat)
  case atStart => exact ⟨0, Nat.zero_le _, rfl, by simp⟩
  case round =>
    obtain ⟨k, hk, rfl, hr⟩ := hrel
    have HR : Hid (plc s ss = k + plc s (ss.drop k)) := hr
    clear hr
    have hend : (∃ b o x, a = some ⟨b, o, none⟩ ∧ k < ss.length ∧ ss[k]? = some x ∧ w.cell? ⟨b, o + k, none⟩ = some (.string x) ∧ Op.bytesLess x.toList s.toList = true) ∨
        (∃ b o x, a = some ⟨b, o, none⟩ ∧ (k : Int) < (ss.length : Int) ∧ Hid (ss[k]? = some x) ∧ w.cell? ⟨b, o + k, none⟩ = some (.string x) ∧ Op.bytesLess x.toList s.toList = false ∧ Hid (plc s ss = k)) ∨ (¬ (k : Int) < (ss.length : Int) ∧ Hid (ss[k]? = none) ∧ Hid (plc s ss = k)) := by
      by_cases hlt : k < ss.length
      · rcases hs with h0 | ⟨b, o, e, hs⟩
        · rw [h0] at hlt; exact absurd hlt (Nat.not_lt_zero _)
        · have e3 := List.getElem?_eq_getElem hlt
          have e4 := (hs.at (List.getElem?_eq_getElem hlt)).1
          cases hq : Op.bytesLess ss[k].toList s.toList
          · exact .inr (.inl ⟨b, o, ss[k], e, by omega, e3, e4, hq, (plc_at HR.out _ e3).2 hq⟩)
          · exact .inl ⟨b, o, ss[k], e, hlt, e3, e4, hq⟩
      · refine .inr (.inr ⟨by omega, List.getElem?_eq_none (by omega), ?_⟩)
        have e : k = ss.length := by omega
        unfold Hid
        rw [HR.out, e, List.drop_length]; rfl
    clear hs
    rcases hend with ⟨b, o, x, rfl, e2, e3, e4, hq⟩ | ⟨b, o, x, rfl, e2, e3, e4, hq, HP⟩ | ⟨e2, e3, HP⟩
    · have e2' : (k : Int) < (ss.length : Int) := by omega
      have HP : Hid (plc s ss = k + 1 + plc s (ss.drop (k + 1))) := (plc_at HR.out x e3).1 hq
      clear e3
      go_wp2_with fail
      go_round
      case rel => exact ⟨k + 1, by omega, by go_num, HP.out⟩
      case measure => simp [intOf]; omega
    · clear HR
      cases hq2 : (x.toList == s.toList)
      · have HN : Hid (put1 s ss = insN s ss) := put1_new fun y hy => by
          rw [HP.out, e3.out] at hy
          cases hy
          exact hq2
        go_wp2_with fail
        clear e2 e4 hq hq2
        refine lp6 (n := ss.length) (na := some ⟨b, o, none⟩) (nc := c) (L := texts ss) HS.out.lies.1 (by rw [texts_length, Nat.mul_one]) texts_one hc hk (by omega) (fun _ d _ _ _ h => by cases d <;> exact h) ?_
        intro W1 v' v33 v34 v35 v36 v37 v38 v39 v40 v41 v42 v43 hb hown
        rw [← HP.out, ← insN_texts, ← HN.out] at hown
        have e6 : ss.length + 1 = (put1 s ss).length := by rw [HN.out, insN_len]
        rw [e6] at hown
        obtain ⟨a', c', rfl, hl, hcc, _⟩ := own_lies hown
        have HF : Hid (SIn W1 (put1 s ss) a' ∧ ((put1 s ss).length ≤ c' ∧ c' ≤ maxLen)) := ⟨hl.sin (fun y hy => by rcases put1_mem hy with rfl | hy; exact ht; exact HS.out.lies.2 y hy), hcc⟩
        clear hl hcc hown e6
        go_wp2_with fail
        go_ret
        exact ⟨⟨a', c', rfl, HF.out⟩, hb⟩
      · have HN : Hid (put1 s ss = ss) := put1_old (x := x) (by rw [HP.out]; exact e3.out) hq2
        go_wp2_with fail
        go_ret
        rw [HN.out]
        exact ⟨⟨some ⟨b, o, none⟩, c, rfl, HS.out, hc⟩, Below.refl _ _⟩
    · clear HR
      have HN : Hid (put1 s ss = insN s ss) := put1_new fun y hy => by
        rw [HP.out, e3.out] at hy
        cases hy
      go_wp2_with fail
      clear e2
      refine lp6 (n := ss.length) (na := a) (nc := c) (L := texts ss) HS.out.lies.1 (by rw [texts_length, Nat.mul_one]) texts_one hc hk (by omega) (fun _ d _ _ _ h => by cases d <;> exact h) ?_
      intro W1 v' v33 v34 v35 v36 v37 v38 v39 v40 v41 v42 v43 hb hown
      rw [← HP.out, ← insN_texts, ← HN.out] at hown
      have e6 : ss.length + 1 = (put1 s ss).length := by rw [HN.out, insN_len]
      rw [e6] at hown
      obtain ⟨a', c', rfl, hl, hcc, _⟩ := own_lies hown
      have HF : Hid (SIn W1 (put1 s ss) a' ∧ ((put1 s ss).length ≤ c' ∧ c' ≤ maxLen)) := ⟨hl.sin (fun y hy => by rcases put1_mem hy with rfl | hy; exact ht; exact HS.out.lies.2 y hy), hcc⟩
      clear hl hcc hown e6
      go_wp2_with fail
      go_ret
      exact ⟨⟨a', c', rfl, HF.out⟩, hb⟩
end Go.Proofs.Ytbbbmmemfndnlaa
/- Ascending texts: where one belongs, by halves, and what is there then: the mathematics. -/
namespace Go.Proofs.Ytbbbmmemfndnlaa
open Go.RowKit
theorem bl_tr : ∀ {a b c : List UInt8}, Op.bytesLess a b = true → Op.bytesLess b c = true → Op.bytesLess a c = true := by
  intro a
  induction a with
  | nil => intro b c h1 h2; cases b with
    | nil => exact h2
    | cons y t => cases c with
      | nil => simp [Op.bytesLess] at h2
      | cons z u => simp [Op.bytesLess]
  | cons x s ih =>
    intro b c h1 h2
    cases b with
    | nil => simp [Op.bytesLess] at h1
    | cons y t =>
      cases c with
      | nil => simp [Op.bytesLess] at h2
      | cons z u =>
        simp only [Op.bytesLess] at h1 h2 ⊢
        rw [Bool.or_eq_true, decide_eq_true_iff, Bool.and_eq_true, beq_iff_eq] at h1 h2 ⊢
        rcases h1 with h1 | ⟨rfl, h1⟩
        · rcases h2 with h2 | ⟨rfl, h2⟩
          · exact .inl (UInt8.lt_trans h1 h2)
          · exact .inl h1
        · rcases h2 with h2 | ⟨rfl, h2⟩
          · exact .inl h2
          · exact .inr ⟨rfl, ih h1 h2⟩
theorem bl_irr : ∀ a : List UInt8, Op.bytesLess a a = false := by
  intro a
  induction a with
  | nil => rfl
  | cons x s ih => simp [Op.bytesLess, ih]
theorem bl_tri : ∀ {a b : List UInt8}, Op.bytesLess a b = false → a ≠ b → Op.bytesLess b a = true := by
  intro a
  induction a with
  | nil => intro b h hne; cases b with
    | nil => exact absurd rfl hne
    | cons y t => simp [Op.bytesLess] at h
  | cons x s ih =>
    intro b h hne
    cases b with
    | nil => simp [Op.bytesLess]
    | cons y t =>
      simp only [Op.bytesLess, Bool.or_eq_false_iff, decide_eq_false_iff_not, Bool.and_eq_false_iff, beq_eq_false_iff_ne] at h
      simp only [Op.bytesLess, Bool.or_eq_true, decide_eq_true_iff, Bool.and_eq_true, beq_iff_eq]
      obtain ⟨h1, h2⟩ := h
      by_cases e : x = y
      · subst e
        exact .inr ⟨rfl, ih (by rcases h2 with h2 | h2; exact absurd rfl h2; exact h2) (fun e => hne (by rw [e]))⟩
      · refine .inl ?_
        rcases UInt8.lt_or_lt_of_ne e with h3 | h3
        · exact absurd h3 h1
        · exact h3
/-- ascending -/
def ascT : List ByteArray → Prop
  | [] => True
  | x :: t => (∀ y ∈ t, Op.bytesLess x.toList y.toList = true) ∧ ascT t
theorem asc_plc : ∀ {ns : List ByteArray} {s : ByteArray}, ascT ns → (∀ t x, t < plc s ns → ns[t]? = some x → Op.bytesLess x.toList s.toList = true) ∧ (∀ t x, plc s ns ≤ t → ns[t]? = some x → Op.bytesLess x.toList s.toList = false) := by
  intro ns
  induction ns with
  | nil => intro s _; exact ⟨fun t x _ h => by simp at h, fun t x _ h => by simp at h⟩
  | cons a l ih =>
    rintro s ⟨h1, h2⟩
    obtain ⟨i1, i2⟩ := ih (s := s) h2
    cases hq : Op.bytesLess a.toList s.toList
    · have e : plc s (a :: l) = 0 := by unfold plc; rw [hq]; rfl
      rw [e]
      refine ⟨fun t x h => absurd h (Nat.not_lt_zero _), fun t x _ h => ?_⟩
      cases t with
      | zero => simp at h; subst h; exact hq
      | succ t =>
        simp at h
        cases hz : Op.bytesLess x.toList s.toList
        · rfl
        · have := bl_tr (h1 x (List.mem_of_getElem? h)) hz
          rw [hq] at this; exact this.symm
    · have e : plc s (a :: l) = plc s l + 1 := by show (if Op.bytesLess a.toList s.toList then plc s l + 1 else 0) = plc s l + 1; rw [hq]; rfl
      rw [e]
      refine ⟨fun t x h1 h => ?_, fun t x h1 h => ?_⟩
      · cases t with
        | zero => simp at h; subst h; exact hq
        | succ t => exact i1 t x (by omega) (by simpa using h)
      · cases t with
        | zero => omega
        | succ t => exact i2 t x (by omega) (by simpa using h)
theorem asc_bs {ns : List ByteArray} {s : ByteArray} (h : ascT ns) : Lib.bsGo (fun t => Op.bytesLess (ns.getD t s).toList s.toList) ns.length 0 ns.length = plc s ns := by
  obtain ⟨h1, h2⟩ := asc_plc (s := s) h
  have hle := plc_le s ns
  refine Lib.bsGo_spec _ _ (fun t ht => ?_) (fun t ht => ?_) _ _ _ (by omega) (Nat.zero_le _) hle
  · have hl : t < ns.length := by omega
    have e := List.getElem?_eq_getElem hl
    rw [List.getD_eq_getElem?_getD, e]
    exact h1 t _ ht e
  · by_cases hl : t < ns.length
    · have e := List.getElem?_eq_getElem hl
      rw [List.getD_eq_getElem?_getD, e]
      exact h2 t _ ht e
    · rw [List.getD_eq_getElem?_getD, List.getElem?_eq_none (by omega)]
      exact bl_irr _
theorem asc_mem_le {ns : List ByteArray} {s : ByteArray} (h : ascT ns) : ∀ x ∈ ns.take (plc s ns), Op.bytesLess x.toList s.toList = true := by
  intro x hx
  obtain ⟨t, ht, e⟩ := List.getElem_of_mem hx
  rw [List.length_take] at ht
  rw [List.getElem_take] at e
  exact (asc_plc h).1 t x (by omega) (by rw [← e]; exact List.getElem?_eq_getElem (by omega))
theorem ascT_app : ∀ {a b : List ByteArray}, ascT (a ++ b) ↔ ascT a ∧ ascT b ∧ ∀ x ∈ a, ∀ y ∈ b, Op.bytesLess x.toList y.toList = true := by
  intro a
  induction a with
  | nil => intro b; exact ⟨fun h => ⟨trivial, h, fun x hx => by cases hx⟩, fun h => h.2.1⟩
  | cons c l ih =>
    intro b
    show ((∀ y ∈ l ++ b, Op.bytesLess c.toList y.toList = true) ∧ ascT (l ++ b)) ↔ ((∀ y ∈ l, Op.bytesLess c.toList y.toList = true) ∧ ascT l) ∧ ascT b ∧ ∀ x ∈ c :: l, ∀ y ∈ b, Op.bytesLess x.toList y.toList = true
    rw [ih]
    constructor
    · rintro ⟨h1, h2, h3, h4⟩
      refine ⟨⟨fun y hy => h1 y (List.mem_append_left _ hy), h2⟩, h3, fun x hx y hy => ?_⟩
      rcases List.mem_cons.1 hx with rfl | hx
      · exact h1 y (List.mem_append_right _ hy)
      · exact h4 x hx y hy
    · rintro ⟨⟨h1, h2⟩, h3, h4⟩
      refine ⟨fun y hy => ?_, h2, h3, fun x hx y hy => h4 x (List.mem_cons_of_mem _ hx) y hy⟩
      rcases List.mem_append.1 hy with hy | hy
      · exact h1 y hy
      · exact h4 c (List.mem_cons_self ..) y hy
theorem asc_put1 {ns : List ByteArray} {s : ByteArray} (h : ascT ns) : ascT (put1 s ns) := by
  unfold put1
  split
  · exact h
  · rename_i hx
    have hno : ∀ x, ns[plc s ns]? = some x → (x.toList == s.toList) = false := fun x e => by
      rw [hasAt_some e] at hx
      cases hq : (x.toList == s.toList)
      · rfl
      · exact absurd hq hx
    obtain ⟨h1, h2⟩ := asc_plc (s := s) h
    have hs : ascT (ns.take (plc s ns) ++ ns.drop (plc s ns)) := by rw [List.take_append_drop]; exact h
    obtain ⟨a1, a2, a3⟩ := ascT_app.1 hs
    have hd : ∀ y ∈ ns.drop (plc s ns), Op.bytesLess s.toList y.toList = true := by
      intro y hy
      obtain ⟨t, ht, e⟩ := List.getElem_of_mem hy
      rw [List.length_drop] at ht
      rw [List.getElem_drop] at e
      have e2 : ns[plc s ns + t]? = some y := by rw [← e]; exact List.getElem?_eq_getElem (by omega)
      have hf := h2 (plc s ns + t) y (by omega) e2
      refine bl_tri hf fun e3 => ?_
      cases t with
      | zero =>
        have := hno y e2
        rw [e3] at this
        simp at this
      | succ t =>
        have e0 : ns[plc s ns]? = some ns[plc s ns] := List.getElem?_eq_getElem (by omega)
        have hlt : Op.bytesLess (ns[plc s ns]'(by omega)).toList y.toList = true := by
          have : ns.drop (plc s ns) = ns[plc s ns]'(by omega) :: ns.drop (plc s ns + 1) := List.drop_eq_getElem_cons (by omega)
          rw [this] at a2
          refine a2.1 y (List.mem_of_getElem? (i := t) ?_)
          rw [List.getElem?_drop, show plc s ns + 1 + t = plc s ns + (t + 1) by omega]
          exact e2
        rw [e3] at hlt
        have h0 := h2 (plc s ns) _ (Nat.le_refl _) e0
        rw [h0] at hlt
        cases hlt
    exact ascT_app.2 ⟨a1, ⟨hd, a2⟩, fun x hx y hy => by
      rcases List.mem_cons.1 hy with rfl | hy
      · exact asc_mem_le h x hx
      · exact a3 x hx y hy⟩
end Go.Proofs.Ytbbbmmemfndnlaa
/- The library's contracts on slices.BinarySearch and slices.Insert of texts at this dump. -/
namespace Go.Proofs.Ytbbbmmemfndnlaa
open Go.Shelf Go.RowKit
def renS26 : Ren := ⟨fun | 26 => 69 | 33 => 92 | 34 => 93 | 38 => 103 | n => n, fun | 0 => 0 | 3 => 3 | 4 => 4 | 9 => 9 | 24 => 28 | 40 => 102 | n => n, fun | n => n⟩
theorem laysS26 : Lays2.n26 Try.prog renS26 := {
  mixed := by kernel_rfl
  f26 := Try.func69.trans (congrArg some (by kernel_rfl))
  f33 := Try.func92.trans (congrArg some (by kernel_rfl))
  f34 := Try.func93.trans (congrArg some (by kernel_rfl))
  f38 := Try.func103.trans (congrArg some (by kernel_rfl))
  t0 := Try.underlying0
  a0 := Try.isAgg0
  z0 := Try.sizeOf0
  v0 := Try.zeroValue0
  t3 := Try.underlying3
  a3 := Try.isAgg3
  z3 := Try.sizeOf3
  v3 := Try.zeroValue3
  t4 := Try.underlying4
  a4 := Try.isAgg4
  z4 := Try.sizeOf4
  v4 := Try.zeroValue4
  t9 := Try.underlying9
  a9 := Try.isAgg9
  z9 := Try.sizeOf9
  v9 := Try.zeroValue9
  t24 := Try.underlying28
  a24 := Try.isAgg28
  z24 := Try.sizeOf28
  v24 := Try.zeroValue28
  t40 := Try.underlying102
  a40 := Try.isAgg102
  z40 := Try.sizeOf102
  v40 := Try.zeroValue102 }
def renS22 : Ren := ⟨fun | 17 => 107 | 22 => 70 | 29 => 94 | 30 => 95 | 36 => 104 | n => n, fun | 0 => 0 | 3 => 3 | 4 => 4 | 9 => 9 | 24 => 28 | n => n, fun | n => n⟩
theorem laysS22 : Lays2.n22 Try.prog renS22 := {
  mixed := by kernel_rfl
  f17 := Try.func107.trans (congrArg some (by kernel_rfl))
  f22 := Try.func70.trans (congrArg some (by kernel_rfl))
  f29 := Try.func94.trans (congrArg some (by kernel_rfl))
  f30 := Try.func95.trans (congrArg some (by kernel_rfl))
  f36 := Try.func104.trans (congrArg some (by kernel_rfl))
  t0 := Try.underlying0
  a0 := Try.isAgg0
  z0 := Try.sizeOf0
  v0 := Try.zeroValue0
  t3 := Try.underlying3
  a3 := Try.isAgg3
  z3 := Try.sizeOf3
  v3 := Try.zeroValue3
  t4 := Try.underlying4
  a4 := Try.isAgg4
  z4 := Try.sizeOf4
  v4 := Try.zeroValue4
  t9 := Try.underlying9
  a9 := Try.isAgg9
  z9 := Try.sizeOf9
  v9 := Try.zeroValue9
  t24 := Try.underlying28
  a24 := Try.isAgg28
  z24 := Try.sizeOf28
  v24 := Try.zeroValue28
  i9 := by kernel_rfl }
end Go.Proofs.Ytbbbmmemfndnlaa
/- A text put into a list that is owned, by the library: slices.Insert. -/
namespace Go.Proofs.Ytbbbmmemfndnlaa
open Go.RowKit
attribute [local go_sem] cell_alloc_is frozen_alloc_is
/-- texts in a block of their own, with room behind them -/
def OwnT (B : Nat) (w : World) (a : Option Addr) (c : Nat) (ns : List ByteArray) : Prop :=
  (a = none ∧ c = 0 ∧ ns = []) ∨ ∃ g f, a = some ⟨g, 0, none⟩ ∧ B ≤ g ∧ (ns.length ≤ c ∧ c ≤ maxLen) ∧ w.rowIs g 9 c f ∧ ∀ i x, ns[i]? = some x → f i = .string x
theorem OwnT.of_block {B : Nat} {w w' : World} {a : Option Addr} {c : Nat} {ns : List ByteArray} (h : OwnT B w a c ns) (hb : ∀ g, a = some ⟨g, 0, none⟩ → w'.heap[g]? = w.heap[g]?) : OwnT B w' a c ns := by
  rcases h with h | ⟨g, f, rfl, h1, h2, h3, h4⟩
  · exact .inl h
  · exact .inr ⟨g, f, rfl, h1, h2, h3.of_block (hb g rfl), h4⟩
theorem OwnT.cell {B : Nat} {w : World} {a : Option Addr} {c : Nat} {ns : List ByteArray} (h : OwnT B w a c ns) {g : Nat} (ha : a = some ⟨g, 0, none⟩) {i : Nat} {x : ByteArray} (hx : ns[i]? = some x) : w.cell? ⟨g, i, none⟩ = some (.string x) := by
  rcases h with ⟨h, _⟩ | ⟨g', f, e, h1, h2, h3, h4⟩
  · rw [h] at ha; cases ha
  · rw [e] at ha; cases ha
    rw [h3.cell (i := i) (by have := (List.getElem?_eq_some_iff.1 hx).1; omega), h4 i x hx]
theorem OwnT.lt {B : Nat} {w : World} {a : Option Addr} {c : Nat} {ns : List ByteArray} (h : OwnT B w a c ns) {g : Nat} (ha : a = some ⟨g, 0, none⟩) : B ≤ g ∧ g < w.heap.size := by
  rcases h with ⟨h, _⟩ | ⟨g', f, e, h1, h2, h3, h4⟩
  · rw [h] at ha; cases ha
  · rw [e] at ha; cases ha
    exact ⟨h1, h3.lt⟩
theorem shape_row {w : World} {b : Nat} {t : TypeId} {n : Nat} {f : Nat → Value} (h : w.rowIs b t n f) : w.shape? b = some (t, n) := by
  obtain ⟨c, h1, h2, _⟩ := h
  unfold World.shape?
  rw [h1, ← h2]
theorem getElem_ins {α : Type} {ns : List α} {s x : α} {k i : Nat} (hk : k ≤ ns.length) (h : (ns.take k ++ s :: ns.drop k)[i]? = some x) : (i < k ∧ ns[i]? = some x) ∨ (i = k ∧ x = s) ∨ (k < i ∧ ns[i - 1]? = some x) := by
  have hl : (ns.take k).length = k := by rw [List.length_take]; omega
  by_cases h1 : i < k
  · rw [List.getElem?_append_left (by omega), List.getElem?_take, if_pos h1] at h
    exact .inl ⟨h1, h⟩
  · rw [List.getElem?_append_right (by omega), hl] at h
    by_cases h2 : i = k
    · subst h2; simp at h; exact .inr (.inl ⟨rfl, h.symm⟩)
    · obtain ⟨j, hj⟩ : ∃ j, i - k = j + 1 := ⟨i - k - 1, by omega⟩
      rw [hj, List.getElem?_cons_succ, List.getElem?_drop] at h
      exact .inr (.inr ⟨by omega, by rw [show i - 1 = k + j by omega]; exact h⟩)
/-- what putting one in does -/
def InsC (B : Nat) (w : World) (a : Option Addr) (ns' : List ByteArray) (e : Ending) (w' : World) : Prop :=
  ∃ a' c', e = .returned (.slice a' ns'.length c') ∧ OwnT B w' a' c' ns' ∧ (Below B w w' ∧ ∀ x, x < w.heap.size → some x ≠ a.map (·.block) → w'.heap[x]? = w.heap[x]?) ∧ (a'.map (·.block) = a.map (·.block) ∨ ∃ g, a'.map (·.block) = some g ∧ w.heap.size ≤ g)
theorem texts_at {ns : List ByteArray} {j : Nat} {v : Value} (h : (texts ns)[j]? = some v) : ∃ x, ns[j]? = some x ∧ v = .string x := by
  unfold texts at h
  rw [List.getElem?_map] at h
  cases e : ns[j]? with
  | none => rw [e] at h; cases h
  | some x => rw [e] at h; exact ⟨x, rfl, (Option.some.inj h).symm⟩
theorem heap_setCellsO {g x : Nat} (h : ¬ x = g) : ∀ {vs : List Value} {o : Nat} {w : World}, (w.setCells g o vs).heap[x]? = w.heap[x]?
  | [], _, _ => rfl
  | _ :: r, o, _ => (heap_setCellsO h (vs := r) (o := o + 1)).trans (Go.Deep.blk_setCell_other _ _ _ _ h)
theorem zs_size (n : Nat) : (Builtin.zeroCells (Value.string ⟨#[]⟩).cells n).size = n := by
  rw [size_zeroCells]; show n * 1 = n; omega
theorem texts_get {ns : List ByteArray} {i : Nat} {x : ByteArray} (h : ns[i]? = some x) : (texts ns)[i]? = some (.string x) := by
  unfold texts; rw [List.getElem?_map, h]; rfl
/-- a new row out of an array -/
theorem row_of (w : World) (A : Array Value) (n : Nat) (hn : A.size = n) : (w.alloc (.cells A 9)).rowIs w.heap.size 9 n (fun i => A[i]?.getD (.string ⟨#[]⟩)) := by
  subst hn
  exact World.rowIs_alloc w A _ _ (fun i hi => by rw [Array.getElem?_eq_getElem hi]; rfl)
theorem app_get {L : List Value} {Z : Array Value} {i : Nat} {v : Value} (h : L[i]? = some v) : (L.toArray ++ Z)[i]? = some v := by
  have hi := (List.getElem?_eq_some_iff.1 h).1
  rw [Array.getElem?_append, if_pos (by simpa using hi)]
  simpa using h
theorem row_drew {w : World} {b : Nat} {t : TypeId} {n : Nat} {f : Nat → Value} (h : w.rowIs b t n f) : w.drew.rowIs b t n f := h
set_option maxHeartbeats 1000000 in
theorem insert_any {B : Nat} {w : World} {a : Option Addr} {c k vb : Nat} {ns : List ByteArray} {s : ByteArray} (h : OwnT B w a c ns) (hB : B ≤ w.heap.size) (hk : k ≤ ns.length) (hv : w.rowIs vb 9 1 (fun _ => .string s)) (hva : a.map (·.block) ≠ some vb) (hn : ns.length ≤ 1100000) :
    Calls Try.prog 70 #[.slice a ns.length c, .int .i64 (k : Nat), .slice (some ⟨vb, 0, none⟩) 1 1] w fun e w' => InsC B w a (ns.take k ++ s :: ns.drop k) e w' := by
  have hlen : (ns.take k ++ s :: ns.drop k).length = ns.length + 1 := by simp; omega
  have hvs : ∀ j v, ([Value.string s] : List Value)[j]? = some v → w.cell? ⟨vb, 0 + j, none⟩ = some v := by
    intro j v hj
    cases j with
    | zero => simp at hj; subst hj; exact hv.cell (by omega)
    | succ j => simp at hj
  have h1v : ∀ v ∈ ([Value.string s] : List Value), v.oneCell' = true := fun v hv => by simp at hv; subst hv; rfl
  have h1c : ∀ v ∈ texts ns, v.oneCell' = true := texts_one
  have hcl : (texts ns).length = ns.length := texts_length ns
  rcases h with ⟨rfl, rfl, rfl⟩ | ⟨g, f, rfl, hg, ⟨hc1, hc2⟩, hrow, hf⟩
  · obtain rfl : k = 0 := Nat.le_zero.1 hk
    refine (Any2.slices_Insert_string_end_grow laysS22 none 0 0 vb 0 1 1 [] [.string s] w (by omega) (Nat.le_refl _) (by omega) (by omega) rfl rfl (fun _ => rfl) (fun a e => nomatch e) hvs h1v).mono ?_
    rintro e w' ⟨rfl, rfl⟩
    have hge := grownCap_ge w (0 + 1) 0 9
    refine ⟨some ⟨w.heap.size, 0, none⟩, grownCap w (0 + 1) 0 9, rfl, .inr ⟨w.heap.size, _, rfl, hB, ⟨hge, grownCap_le_maxLen _ _ _ _ (by unfold maxLen; omega)⟩, row_of w.drew _ _ ?_, ?_⟩, ⟨((Below.refl _ _).drew).alloc hB _, fun x hx _ => heap_alloc_old _ _ hx⟩, .inr ⟨_, rfl, Nat.le_refl _⟩⟩
    · rw [Array.size_append]
      show 1 + (Builtin.zeroCells (Value.string ⟨#[]⟩).cells (grownCap w (0 + 1) 0 9 - (0 + 1))).size = _
      rw [zs_size]; omega
    · intro i x hx
      have hx2 : ([s] : List ByteArray)[i]? = some x := hx
      show (([Value.string s].toArray ++ _)[i]?).getD _ = _
      rw [app_get (L := [Value.string s]) (texts_get hx2)]; rfl
  · have hcs : ∀ j v, (texts ns)[j]? = some v → w.cell? ⟨g, 0 + j, none⟩ = some v := fun j v hj => by
      obtain ⟨x, hx, rfl⟩ := texts_at hj
      have := (List.getElem?_eq_some_iff.1 hx).1
      rw [Nat.zero_add, hrow.cell (by omega), hf j x hx]
    have hvg : ¬ vb = g := fun e => hva (by rw [e]; rfl)
    have hsp : ∀ j, j < c → (w.cell? ⟨g, 0 + j, none⟩).isSome = true := fun j hj => by rw [Nat.zero_add, hrow.cell hj]; rfl
    have hfz : ∀ j, w.frozen? ⟨g, j, none⟩ = false := fun j => hrow.frozen j
    have hsa := shape_row hv
    have hsb := shape_row hrow
    unfold maxLen at hc2
    by_cases hkn : k < ns.length
    · by_cases hroom : ns.length + 1 ≤ c
      · refine (Any2.slices_Insert_string_shift laysS22 g 0 ns.length c k vb 0 1 1 (texts ns) [.string s] w hkn (by omega) hroom (by omega) hvg hcl rfl hcs (fun j hj => hsp j (by omega)) (fun j _ => hfz _) hvs h1c h1v _ _ _ _ hsa hsb (by omega) (hv.frozen 0) (hv.frozen 1)).mono ?_
        rintro e w' ⟨rfl, rfl⟩
        have r1 := rowIs_setCells ((texts ns).drop k) (0 + (k + 1)) w.drew _ (row_drew hrow)
        have r2 := rowIs_setCells [Value.string s] (0 + k) _ _ r1
        refine ⟨some ⟨g, 0, none⟩, c, by rw [hlen], .inr ⟨g, _, rfl, hg, ⟨by rw [hlen]; exact hroom, hc2⟩, r2, ?_⟩, ⟨below_setCells hg _ _ _ (below_setCells hg _ _ _ (Below.refl _ _).drew), fun x hx hne => ?_⟩, .inl rfl⟩
        · intro i x hx
          rcases getElem_ins hk hx with ⟨h1, h2⟩ | ⟨h1, h2⟩ | ⟨h1, h2⟩
          · rw [if_neg (by simp; omega), if_neg (by omega)]; exact hf i x h2
          · subst h1; subst h2
            rw [if_pos (by simp)]; simp
          · have h3 := (List.getElem?_eq_some_iff.1 h2).1
            rw [if_neg (by simp; omega), if_pos (by rw [List.length_drop, hcl]; omega), List.getElem?_drop, show k + (i - (0 + (k + 1))) = i - 1 by omega, texts_get h2]; rfl
        · have hxg : ¬ x = g := fun e => hne (by rw [e]; rfl)
          rw [heap_setCellsO hxg, heap_setCellsO hxg]; rfl
      · have hce : c = ns.length := by omega
        refine (Any2.slices_Insert_string_grow laysS22 g 0 ns.length c k vb 0 1 1 (texts ns) [.string s] w hkn (by omega) hc1 (by omega) (by omega) hcl rfl hcs hvs h1c h1v).mono ?_
        rintro e w' ⟨rfl, rfl⟩
        have hge := grownCap_ge w (ns.length + 1) c 9
        have r0 := row_of w (((texts ns).take k).toArray ++ Builtin.zeroCells (Value.string ⟨#[]⟩).cells (ns.length + 1 - k) ++ Builtin.zeroCells (Value.string ⟨#[]⟩).cells (grownCap w (ns.length + 1) c 9 - (ns.length + 1))) (grownCap w (ns.length + 1) c 9) (by
          rw [Array.size_append, Array.size_append, zs_size, zs_size]
          simp only [List.size_toArray, List.length_take, hcl]
          omega)
        have r1 := rowIs_setCells [Value.string s] k _ _ (row_drew r0)
        have r2 := rowIs_setCells ((texts ns).drop k) (k + 1) _ _ (row_drew r1)
        refine ⟨some ⟨w.heap.size, 0, none⟩, grownCap w (ns.length + 1) c 9, by rw [hlen]; rfl, .inr ⟨w.heap.size, _, rfl, hB, ⟨by rw [hlen]; exact hge, grownCap_le_maxLen _ _ _ _ (by unfold maxLen; omega)⟩, r2, ?_⟩, ⟨below_setCells hB _ _ _ ((below_setCells hB _ _ _ ((Below.refl _ _).alloc hB _).drew).drew), fun x hx hne => ?_⟩, .inr ⟨_, rfl, Nat.le_refl _⟩⟩
        · intro i x hx
          rcases getElem_ins hk hx with ⟨h1, h2⟩ | ⟨h1, h2⟩ | ⟨h1, h2⟩
          · rw [if_neg (by omega), if_neg (by simp; omega), Array.append_assoc, app_get (v := .string x) (by rw [List.getElem?_take, if_pos h1]; exact texts_get h2)]; rfl
          · subst h1; subst h2
            rw [if_neg (by omega), if_pos (by simp)]; simp
          · have h3 := (List.getElem?_eq_some_iff.1 h2).1
            rw [if_pos (by rw [List.length_drop, hcl]; omega), List.getElem?_drop, show k + (i - (k + 1)) = i - 1 by omega, texts_get h2]; rfl
        · have hxw : ¬ x = w.heap.size := by omega
          rw [heap_setCellsO hxw]
          show ((w.alloc _).drew.setCells w.heap.size k [Value.string s]).heap[x]? = _
          rw [heap_setCellsO hxw]
          exact heap_alloc_old _ _ hx
    · obtain rfl : k = ns.length := by omega
      have e2 : ns.take ns.length ++ s :: ns.drop ns.length = ns ++ [s] := by rw [List.take_length, List.drop_length]
      rw [e2] at hlen ⊢
      by_cases hroom : ns.length + 1 ≤ c
      · refine (Any2.slices_Insert_string_end_room laysS22 g 0 ns.length c vb 0 1 1 [.string s] w (by omega) hroom (by omega) rfl (fun j hj => by have := hsp (ns.length + j) (by omega); rw [Nat.zero_add] at this; simpa using this) (fun j _ => hfz _) hvs h1v).mono ?_
        rintro e w' ⟨rfl, rfl⟩
        have r2 := rowIs_setCells [Value.string s] (0 + ns.length) w _ hrow
        refine ⟨some ⟨g, 0, none⟩, c, by rw [hlen], .inr ⟨g, _, rfl, hg, ⟨by rw [hlen]; exact hroom, hc2⟩, r2, ?_⟩, ⟨below_setCells hg _ _ _ (Below.refl _ _), fun x hx hne => heap_setCellsO (fun e => hne (by rw [e]; rfl))⟩, .inl rfl⟩
        intro i x hx
        rw [← e2] at hx
        rcases getElem_ins (Nat.le_refl _) hx with ⟨h1, h2⟩ | ⟨h1, h2⟩ | ⟨h1, h2⟩
        · rw [if_neg (by omega)]; exact hf i x h2
        · subst h1; subst h2
          rw [if_pos (by simp)]; simp
        · have h3 := (List.getElem?_eq_some_iff.1 h2).1
          omega
      · have hce : c = ns.length := by omega
        refine (Any2.slices_Insert_string_end_grow laysS22 (some ⟨g, 0, none⟩) ns.length c vb 0 1 1 (texts ns) [.string s] w (by omega) hc1 (by omega) (by omega) hcl rfl (fun e => by cases e) (fun a e j v hj => by cases e; rw [addr_add]; exact hcs j v hj) hvs h1v).mono ?_
        rintro e w' ⟨rfl, rfl⟩
        have hge := grownCap_ge w (ns.length + 1) c 9
        refine ⟨some ⟨w.heap.size, 0, none⟩, grownCap w (ns.length + 1) c 9, by rw [hlen]; rfl, .inr ⟨w.heap.size, _, rfl, hB, ⟨by rw [hlen]; exact hge, grownCap_le_maxLen _ _ _ _ (by unfold maxLen; omega)⟩, row_of w.drew _ _ ?_, ?_⟩, ⟨((Below.refl _ _).drew).alloc hB _, fun x hx _ => heap_alloc_old _ _ hx⟩, .inr ⟨_, rfl, Nat.le_refl _⟩⟩
        · rw [Array.size_append]
          show (texts ns ++ [Value.string s]).toArray.size + (Builtin.zeroCells (Value.string ⟨#[]⟩).cells (grownCap w (ns.length + 1) c 9 - (ns.length + 1))).size = _
          rw [zs_size, List.size_toArray, List.length_append, hcl]
          simp only [List.length_cons, List.length_nil]
          omega
        · intro i x hx
          have hx2 : (texts ns ++ [Value.string s])[i]? = some (.string x) := by
            have := texts_get hx
            unfold texts at this ⊢
            rw [List.map_append] at this
            exact this
          show (((texts ns ++ [Value.string s]).toArray ++ _)[i]?).getD _ = _
          rw [app_get hx2]; rfl
end Go.Proofs.Ytbbbmmemfndnlaa
