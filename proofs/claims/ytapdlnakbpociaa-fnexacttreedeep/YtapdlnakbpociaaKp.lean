/- Maps whose keys are places of lists: when two keys are the same. -/
import Derived.Test.YtapdlnakbpociaaFoG
import Derived.Test.YtapdlnakbpociaaMp
import Derived.LaidEql
import Derived.Laws.StructEq
import Derived.WideKeyRuns
namespace Go.Proofs.Ytapdlnakbpociaa
open Go.RowKit
/-- where a list lies: nowhere, if it is empty -/
abbrev Pl := Option Addr × Nat
def plV (p : Pl) : Value := .agg #[.pointer p.1, .int .i64 p.2]
/-- it lies in cells that are not frozen -/
def PlOk (w : World) (p : Pl) : Prop := p.1 = none ∨ ∃ a cs t, p.1 = some a ∧ w.heap[a.block]? = some (.cells cs t (0, 0))
theorem eq_ptr (w : World) (d : Nat) (x y : Option Addr) (hx : PlOk w (x, 0)) (hy : PlOk w (y, 0)) :
    (Op.equalIn (d + 1) 78 (.pointer x) (.pointer y)).run Try.prog w = .ok (decide (x = y)) w := by
  cases x with
  | none => cases y <;> simp [Op.equalIn, run_underlying Try.underlying78]
  | some a =>
    cases y with
    | none => simp [Op.equalIn, run_underlying Try.underlying78]
    | some b =>
      rcases hx with hx | ⟨a', ca, ta, hx, ha⟩
      · cases hx
      cases hx
      rcases hy with hy | ⟨b', cb, tb, hy, hb⟩
      · cases hy
      cases hy
      obtain ⟨i, hi, hzz⟩ := Option.map_eq_some_iff.1 nodeInfo
      simp only [Prod.mk.injEq] at hzz
      have hs : i.size ≠ 0 := by rw [hzz.2.1]; decide
      by_cases hab : a = b
      · subst hab
        simp [Op.equalIn, run_underlying Try.underlying78, sizeOf, typeInfo, hi, run_sameAddr_same]
      · simp [Op.equalIn, run_underlying Try.underlying78, sizeOf, typeInfo, hi, hs, run_sameAddr_other w hab ha hb, hab]
set_option maxRecDepth 100000 in
theorem eq_place (w : World) (d : Nat) (p q : Pl) (hp : PlOk w p) (hq : PlOk w q) :
    (Op.equalIn (d + 2) 80 (plV p) (plV q)).run Try.prog w = .ok (decide (p = q)) w := by
  obtain ⟨x, n⟩ := p
  obtain ⟨y, m⟩ := q
  have h1 := eq_ptr w d x y hp hq
  unfold plV
  simp [go_sem, h1]
  by_cases e1 : x = y <;> by_cases e2 : n = m <;> simp [e1, e2]
  all_goals (intro h; omega)
/-- where two lists lie -/
abbrev Pl2 := Pl × Pl
def pl2V (p : Pl2) : Value := .agg #[.pointer p.1.1, .int .i64 p.1.2, .pointer p.2.1, .int .i64 p.2.2]
/-- a map of keys that can be held against each other -/
structure Keys (K : Type) [DecidableEq K] (P : Program) (kt : TypeId) where
  kv : K → Value
  ok : World → K → Prop
  wide : (match P.underlying kt with | some (.array _ _) | some (.struct _) => true | _ => false) = true
  eq : ∀ w x y, ok w x → ok w y → (Op.equal kt (kv x) (kv y)).run P w = .ok (decide (x = y)) w
  check : ∀ w em x, (Instr.checkKey em 10000 kt (kv x)).run P w = .ok () w
  bits : ∀ x, Instr.sameBits 10000 (kv x) (kv x) = true
section
variable {K : Type} [DecidableEq K] {P : Program} {kt : TypeId} (Q : Keys K P kt)
/-- block b is the map of these keys and values -/
def Keys.Is (w : World) (b : Nat) (L : List (K × Value)) : Prop := ∃ es clock, w.heap[b]? = some (.map es clock) ∧ es.toList.map (fun e => (e.key, e.val)) = L.map (fun p => (Q.kv p.1, p.2))
def seekL (x : K) : List (K × Value) → Nat → Option (Nat × Value)
  | [], _ => none
  | (k, v) :: t, i => if x = k then some (i, v) else seekL x t (i + 1)
def getL (x : K) : List (K × Value) → Option Value
  | [] => none
  | (k, v) :: t => if x = k then some v else getL x t
def putL (x : K) (v : Value) : List (K × Value) → List (K × Value)
  | [] => [(x, v)]
  | (k, u) :: t => if x = k then (x, v) :: t else (k, u) :: putL x v t
theorem seekL_get (x : K) : ∀ (L : List (K × Value)) (i : Nat), (seekL x L i).map Prod.snd = getL x L := by
  intro L
  induction L with
  | nil => intro i; rfl
  | cons p t ih =>
    obtain ⟨k, v⟩ := p
    intro i
    unfold seekL getL
    split
    · rfl
    · exact ih (i + 1)
theorem getL_put (x y : K) (v : Value) : ∀ (L : List (K × Value)), getL y (putL x v L) = if y = x then some v else getL y L := by
  intro L
  induction L with
  | nil => unfold putL getL; split <;> simp_all [getL]
  | cons p t ih =>
    obtain ⟨k, u⟩ := p
    unfold putL
    by_cases h : x = k
    · subst h
      rw [if_pos rfl]
      show (if y = x then some v else getL y t) = if y = x then some v else (if y = x then some u else getL y t)
      by_cases h2 : y = x <;> simp [h2]
    · rw [if_neg h]
      show (if y = k then some u else getL y (putL x v t)) = if y = x then some v else (if y = k then some u else getL y t)
      rw [ih]
      by_cases h2 : y = k
      · subst h2; rw [if_pos rfl, if_neg (fun e => h e.symm), if_pos rfl]
      · rw [if_neg h2, if_neg h2]
theorem putL_keys (x : K) (v : Value) : ∀ (L : List (K × Value)) (p : K × Value), p ∈ putL x v L → p.1 = x ∨ p ∈ L := by
  intro L
  induction L with
  | nil => intro p h; simp [putL] at h; subst h; exact .inl rfl
  | cons q t ih =>
    obtain ⟨k, u⟩ := q
    intro p h
    unfold putL at h
    split at h
    · rcases List.mem_cons.1 h with h | h
      · subst h; exact .inl rfl
      · exact .inr (List.mem_cons_of_mem _ h)
    · rcases List.mem_cons.1 h with h | h
      · subst h; exact .inr (List.mem_cons_self)
      · rcases ih p h with h | h
        · exact .inl h
        · exact .inr (List.mem_cons_of_mem _ h)
theorem Keys.asking (w : World) (x : K) (hx : Q.ok w x) : ∀ (L : List (K × Value)) (es : List MapEntry) (i : Nat), (∀ p ∈ L, Q.ok w p.1) → es.map (fun e => (e.key, e.val)) = L.map (fun p => (Q.kv p.1, p.2)) → (Instr.findAsking kt (Q.kv x) es i).run P w = .ok (seekL x L i) w := by
  intro L
  induction L with
  | nil =>
    intro es i _ h
    have : es = [] := by cases es with | nil => rfl | cons e es => simp at h
    subst this
    simp [Instr.findAsking, seekL]
  | cons p t ih =>
    obtain ⟨k, v⟩ := p
    intro es i hok h
    cases es with
    | nil => simp at h
    | cons e es =>
      simp only [List.map_cons, List.cons.injEq, Prod.mk.injEq] at h
      obtain ⟨⟨h1, h2⟩, h3⟩ := h
      have he := Q.eq w x k hx (hok (k, v) List.mem_cons_self)
      rw [← h1] at he
      have hi := ih es (i + 1) (fun p hp => hok p (List.mem_cons_of_mem _ hp)) h3
      by_cases hk : x = k
      · subst hk
        rw [decide_eq_true rfl] at he
        simp [Instr.findAsking, he, seekL, h2]
      · have hd : decide (x = k) = false := decide_eq_false hk
        rw [hd] at he
        simp [Instr.findAsking, he, seekL, hk, hi]
theorem Keys.find (w : World) (x : K) (hx : Q.ok w x) (L : List (K × Value)) (es : List MapEntry) (hok : ∀ p ∈ L, Q.ok w p.1) (h : es.map (fun e => (e.key, e.val)) = L.map (fun p => (Q.kv p.1, p.2))) :
    (Instr.findKey kt (Q.kv x) es).run P w = .ok (seekL x L 0) w := by
  rw [run_findKey_eq w Q.wide]
  exact Q.asking w x hx L es 0 hok h
theorem Keys.look {mty et : TypeId} (hm : P.underlying mty = some (.map kt et)) {w : World} {b : Nat} {L : List (K × Value)} (x : K) (hx : Q.ok w x) (hok : ∀ p ∈ L, Q.ok w p.1) (hb : Q.Is w b L) {z : Value} (hz : (zeroValue et).run P w = .ok z w) :
    (Instr.lookup mty (.map (some b)) (Q.kv x) false).run P w = .ok ((getL x L).getD z) w := by
  obtain ⟨es, clock, hh, he⟩ := hb
  have hf := Q.find w x hx L es.toList hok he
  have hg := seekL_get x L 0
  cases h : seekL x L 0 with
  | none => rw [h] at hf hg; rw [← hg]; simp [Instr.lookup, run_underlying hm, MapKept.run_getObj_map hh, Q.check, hf, hz]
  | some p => obtain ⟨i, v⟩ := p; rw [h] at hf hg; rw [← hg]; simp [Instr.lookup, run_underlying hm, MapKept.run_getObj_map hh, Q.check, hf]
theorem Keys.look2 {mty et : TypeId} (hm : P.underlying mty = some (.map kt et)) {w : World} {b : Nat} {L : List (K × Value)} (x : K) (hx : Q.ok w x) (hok : ∀ p ∈ L, Q.ok w p.1) (hb : Q.Is w b L) {z : Value} (hz : (zeroValue et).run P w = .ok z w) :
    (Instr.lookup mty (.map (some b)) (Q.kv x) true).run P w = .ok (.tuple #[(getL x L).getD z, .bool (getL x L).isSome]) w := by
  obtain ⟨es, clock, hh, he⟩ := hb
  have hf := Q.find w x hx L es.toList hok he
  have hg := seekL_get x L 0
  cases h : seekL x L 0 with
  | none => rw [h] at hf hg; rw [← hg]; simp [Instr.lookup, run_underlying hm, MapKept.run_getObj_map hh, Q.check, hf, hz]
  | some p => obtain ⟨i, v⟩ := p; rw [h] at hf hg; rw [← hg]; simp [Instr.lookup, run_underlying hm, MapKept.run_getObj_map hh, Q.check, hf]
theorem seekL_some {x : K} : ∀ {L : List (K × Value)} {i j : Nat} {v : Value}, seekL x L i = some (j, v) → ∃ n u, j = i + n ∧ L[n]? = some (x, u) ∧ ∀ w, putL x w L = L.set n (x, w) := by
  intro L
  induction L with
  | nil => intro i j v h; cases h
  | cons p t ih =>
    obtain ⟨k, u⟩ := p
    intro i j v h
    unfold seekL at h
    by_cases hk : x = k
    · rw [if_pos hk] at h
      cases h
      subst hk
      exact ⟨0, _, rfl, rfl, fun w => by unfold putL; rw [if_pos rfl]; rfl⟩
    · rw [if_neg hk] at h
      obtain ⟨n, u', e1, e2, e3⟩ := ih h
      exact ⟨n + 1, u', by omega, by simpa using e2, fun w => by unfold putL; rw [if_neg hk, e3 w]; rfl⟩
theorem seekL_none {x : K} : ∀ {L : List (K × Value)} {i : Nat}, seekL x L i = none → ∀ w, putL x w L = L ++ [(x, w)] := by
  intro L
  induction L with
  | nil => intro i _ w; rfl
  | cons p t ih =>
    obtain ⟨k, u⟩ := p
    intro i h w
    unfold seekL at h
    by_cases hk : x = k
    · rw [if_pos hk] at h; cases h
    · rw [if_neg hk] at h
      unfold putL
      rw [if_neg hk, ih h w]; rfl
theorem Keys.put {mty et : TypeId} (hm : P.underlying mty = some (.map kt et)) {w : World} {b : Nat} {L : List (K × Value)} (x : K) (v : Value) (hx : Q.ok w x) (hok : ∀ p ∈ L, Q.ok w p.1) (hb : Q.Is w b L) :
    ∃ w', (Instr.mapUpdate mty (.map (some b)) (Q.kv x) v).run P w = .ok () w' ∧ Q.Is w' b (putL x v L) ∧ w.grownBy w' (some b) ∧ w'.heap.size = w.heap.size := by
  obtain ⟨es, clock, hh, he⟩ := hb
  have hf := Q.find w x hx L es.toList hok he
  have hlt := (Array.getElem?_eq_some_iff.1 hh).1
  cases h : seekL x L 0 with
  | none =>
    rw [h] at hf
    refine ⟨_, by simp [Instr.mapUpdate, run_underlying hm, MapKept.run_getObj_map hh, Q.check, hf, MapKept.run_setObj_map _ hh, Result.andThen]; rfl, ?_, ?_, by simp⟩
    · refine ⟨_, _, (MapKept.heap_set hh).1, ?_⟩
      rw [seekL_none h, Array.toList_push, List.map_append, he, List.map_append]
      rfl
    · exact ⟨rfl, rfl, rfl, by simp, fun i _ hi => (MapKept.heap_set hh).2 i (fun e => hi (by rw [e]))⟩
  | some p =>
    obtain ⟨j, u⟩ := p
    rw [h] at hf
    obtain ⟨n, u', e1, e2, e3⟩ := seekL_some h
    rw [Nat.zero_add] at e1
    subst e1
    have hkey : (es[j]?).map (·.key) = some (Q.kv x) := by
      have h1 : (es.toList.map (fun e => (e.key, e.val)))[j]? = some (Q.kv x, u') := by rw [he, List.getElem?_map, e2]; rfl
      rw [List.getElem?_map, Array.getElem?_toList] at h1
      cases hj : es[j]? with
      | none => rw [hj] at h1; cases h1
      | some e => rw [hj] at h1; simp only [Option.map_some, Option.some.injEq, Prod.mk.injEq] at h1; simp [h1.1]
    have hks : (Instr.keyThatStays (((es[j]?).map (·.key)).getD (Q.kv x)) (Q.kv x)).run P w = .ok (Q.kv x) w := by
      rw [hkey]
      simp [Instr.keyThatStays, Q.bits]
    refine ⟨_, by simp [Instr.mapUpdate, run_underlying hm, MapKept.run_getObj_map hh, Q.check, hf, hks, MapKept.run_setObj_map _ hh, Result.andThen]; rfl, ?_, ?_, by simp⟩
    · refine ⟨_, _, (MapKept.heap_set hh).1, ?_⟩
      rw [e3 v]
      apply List.ext_getElem?
      intro i
      have hi : (es.toList.map (fun e => (e.key, e.val)))[i]? = (L.map (fun p => (Q.kv p.1, p.2)))[i]? := by rw [he]
      rw [List.getElem?_map, List.getElem?_map, Array.getElem?_toList] at hi
      rw [List.getElem?_map, List.getElem?_map, Array.getElem?_toList, Array.getElem?_modify, List.getElem?_set]
      by_cases hij : j = i
      · subst hij
        have hl : j < L.length := (List.getElem?_eq_some_iff.1 e2).1
        rw [if_pos rfl, if_pos rfl, if_pos hl]
        cases hj : es[j]? with
        | none => rw [hj] at hkey; cases hkey
        | some e => rfl
      · rw [if_neg hij, if_neg hij]; exact hi
    · exact ⟨rfl, rfl, rfl, by simp, fun i _ hi => (MapKept.heap_set hh).2 i (fun e => hi (by rw [e]))⟩
theorem Keys.Is.grown {w w' : World} {b : Nat} {L : List (K × Value)} (h : Q.Is w b L) (hb : w'.heap[b]? = w.heap[b]?) : Q.Is w' b L := by
  obtain ⟨es, clock, hh, he⟩ := h
  exact ⟨es, clock, hb.trans hh, he⟩
end
theorem check_place (w : World) (em : Bool) (x : Pl) : (Instr.checkKey em 10000 80 (plV x)).run Try.prog w = .ok () w := by kernel_rfl
theorem bits_ptr (n : Nat) (x : Option Addr) : Instr.sameBits n (.pointer x) (.pointer x) = true := by cases n <;> simp [Instr.sameBits]
theorem bits_int (n : Nat) (k : IntKind) (x : Int) : Instr.sameBits n (.int k x) (.int k x) = true := by cases n <;> simp [Instr.sameBits]
theorem bits_place (n : Nat) (x : Pl) : Instr.sameBits (n + 1) (plV x) (plV x) = true := by simp [plV, Instr.sameBits, bits_ptr, bits_int]
theorem bits_place2 (n : Nat) (x : Pl2) : Instr.sameBits (n + 1) (pl2V x) (pl2V x) = true := by simp [pl2V, Instr.sameBits, bits_ptr, bits_int]
/-- places of lists as keys -/
def plKeys : Keys Pl Try.prog 80 where
  kv := plV
  ok := PlOk
  wide := by kernel_rfl
  eq := fun w x y hx hy => eq_place w 9998 x y hx hy
  check := check_place
  bits := bits_place 9999
end Go.Proofs.Ytapdlnakbpociaa
