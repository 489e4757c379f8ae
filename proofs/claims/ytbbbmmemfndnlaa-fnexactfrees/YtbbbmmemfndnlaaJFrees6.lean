/- My own texts, joined: Sy Ly Lz Ma Lu Lw Lk Lh. -/
import Derived.Test.YtbbbmmemfndnlaaJFrees1
import Derived.Laws.StructEq
import Derived.WideKeyRuns
import Derived.Deep.RegionHeld3
import Derived.Test.YtbbbmmemfndnlaaJFrees5
import Derived.Carry
import Derived.RangeFuncNested
import Derived.RangeFuncBound
import Derived.RangeFuncCalls
import Derived.RangeFuncLeaves
import Derived.RangeFuncFrom
import Derived.RangeFuncBox
import Derived.Shelf.Abstract
import Derived.Shelf.RegionOpen
import Derived.WalkKit
import Derived.OwnWalkIn
import Derived.TacticsInMore
import Derived.LoopNIn
import Derived.LoopIn
import Derived.Test.YtbbbmmemfndnlaaJFrees0
import Derived.Test.YtbbbmmemfndnlaaJFrees2
/- Maps whose keys are texts: an entry found or made, put in, and counted up. -/
namespace Go.Proofs.Ytbbbmmemfndnlaa
open Go.RowKit
section
variable {K : Type} [DecidableEq K]
def seekLY (x : K) : List (K × Value) → Nat → Option (Nat × Value)
  | [], _ => none
  | (k, v) :: t, i => if x = k then some (i, v) else seekLY x t (i + 1)
def getLY (x : K) : List (K × Value) → Option Value
  | [] => none
  | (k, v) :: t => if x = k then some v else getLY x t
def putLY (x : K) (v : Value) : List (K × Value) → List (K × Value)
  | [] => [(x, v)]
  | (k, u) :: t => if x = k then (x, v) :: t else (k, u) :: putLY x v t
end
/-- a map of such keys -/
structure KeysY (K : Type) [DecidableEq K] (P : Program) (kt : TypeId) where
  kv : K → Value
  ok : World → K → Prop
  find : ∀ w x, ok w x → ∀ (L : List (K × Value)) (es : List MapEntry), (∀ p ∈ L, ok w p.1) → es.map (fun e => (e.key, e.val)) = L.map (fun p => (kv p.1, p.2)) → (Instr.findKey kt (kv x) es).run P w = .ok (seekLY x L 0) w
  check : ∀ w em x, (Instr.checkKey em 10000 kt (kv x)).run P w = .ok () w
  bits : ∀ x, Instr.sameBits 10000 (kv x) (kv x) = true
section
variable {K : Type} [DecidableEq K] {P : Program} {kt : TypeId} (Q : KeysY K P kt)
/-- block b is the map of these keys and values -/
def KeysY.Is (w : World) (b : Nat) (L : List (K × Value)) : Prop := ∃ es clock, w.heap[b]? = some (.map es clock) ∧ es.toList.map (fun e => (e.key, e.val)) = L.map (fun p => (Q.kv p.1, p.2))
theorem seekL_getY (x : K) : ∀ (L : List (K × Value)) (i : Nat), (seekLY x L i).map Prod.snd = getLY x L := by
  intro L
  induction L with
  | nil => intro i; rfl
  | cons p t ih =>
    obtain ⟨k, v⟩ := p
    intro i
    unfold seekLY getLY
    split
    · rfl
    · exact ih (i + 1)
theorem getL_putY (x y : K) (v : Value) : ∀ (L : List (K × Value)), getLY y (putLY x v L) = if y = x then some v else getLY y L := by
  intro L
  induction L with
  | nil => unfold putLY getLY; split <;> simp_all [getLY]
  | cons p t ih =>
    obtain ⟨k, u⟩ := p
    unfold putLY
    by_cases h : x = k
    · subst h
      rw [if_pos rfl]
      show (if y = x then some v else getLY y t) = if y = x then some v else (if y = x then some u else getLY y t)
      by_cases h2 : y = x <;> simp [h2]
    · rw [if_neg h]
      show (if y = k then some u else getLY y (putLY x v t)) = if y = x then some v else (if y = k then some u else getLY y t)
      rw [ih]
      by_cases h2 : y = k
      · subst h2; rw [if_pos rfl, if_neg (fun e => h e.symm), if_pos rfl]
      · rw [if_neg h2, if_neg h2]
theorem KeysY.look {mty et : TypeId} (hm : P.underlying mty = some (.map kt et)) {w : World} {b : Nat} {L : List (K × Value)} (x : K) (hx : Q.ok w x) (hok : ∀ p ∈ L, Q.ok w p.1) (hb : Q.Is w b L) {z : Value} (hz : (zeroValue et).run P w = .ok z w) :
    (Instr.lookup mty (.map (some b)) (Q.kv x) false).run P w = .ok ((getLY x L).getD z) w := by
  obtain ⟨es, clock, hh, he⟩ := hb
  have hf := Q.find w x hx L es.toList hok he
  have hg := seekL_getY x L 0
  cases h : seekLY x L 0 with
  | none => rw [h] at hf hg; rw [← hg]; simp [Instr.lookup, run_underlying hm, MapKept.run_getObj_map hh, Q.check, hf, hz]
  | some p => obtain ⟨i, v⟩ := p; rw [h] at hf hg; rw [← hg]; simp [Instr.lookup, run_underlying hm, MapKept.run_getObj_map hh, Q.check, hf]
theorem seekL_someY {x : K} : ∀ {L : List (K × Value)} {i j : Nat} {v : Value}, seekLY x L i = some (j, v) → ∃ n u, j = i + n ∧ L[n]? = some (x, u) ∧ ∀ w, putLY x w L = L.set n (x, w) := by
  intro L
  induction L with
  | nil => intro i j v h; cases h
  | cons p t ih =>
    obtain ⟨k, u⟩ := p
    intro i j v h
    unfold seekLY at h
    by_cases hk : x = k
    · rw [if_pos hk] at h
      cases h
      subst hk
      exact ⟨0, _, rfl, rfl, fun w => by unfold putLY; rw [if_pos rfl]; rfl⟩
    · rw [if_neg hk] at h
      obtain ⟨n, u', e1, e2, e3⟩ := ih h
      exact ⟨n + 1, u', by omega, by simpa using e2, fun w => by unfold putLY; rw [if_neg hk, e3 w]; rfl⟩
theorem seekL_noneY {x : K} : ∀ {L : List (K × Value)} {i : Nat}, seekLY x L i = none → ∀ w, putLY x w L = L ++ [(x, w)] := by
  intro L
  induction L with
  | nil => intro i _ w; rfl
  | cons p t ih =>
    obtain ⟨k, u⟩ := p
    intro i h w
    unfold seekLY at h
    by_cases hk : x = k
    · rw [if_pos hk] at h; cases h
    · rw [if_neg hk] at h
      unfold putLY
      rw [if_neg hk, ih h w]; rfl
theorem KeysY.put {mty et : TypeId} (hm : P.underlying mty = some (.map kt et)) {w : World} {b : Nat} {L : List (K × Value)} (x : K) (v : Value) (hx : Q.ok w x) (hok : ∀ p ∈ L, Q.ok w p.1) (hb : Q.Is w b L) :
    ∃ w', (Instr.mapUpdate mty (.map (some b)) (Q.kv x) v).run P w = .ok () w' ∧ Q.Is w' b (putLY x v L) ∧ w.grownBy w' (some b) ∧ w'.heap.size = w.heap.size := by
  obtain ⟨es, clock, hh, he⟩ := hb
  have hf := Q.find w x hx L es.toList hok he
  have hlt := (Array.getElem?_eq_some_iff.1 hh).1
  cases h : seekLY x L 0 with
  | none =>
    rw [h] at hf
    refine ⟨_, by simp [Instr.mapUpdate, run_underlying hm, MapKept.run_getObj_map hh, Q.check, hf, MapKept.run_setObj_map _ hh, Result.andThen]; rfl, ?_, ?_, by simp⟩
    · refine ⟨_, _, (MapKept.heap_set hh).1, ?_⟩
      rw [seekL_noneY h, Array.toList_push, List.map_append, he, List.map_append]
      rfl
    · exact ⟨rfl, rfl, rfl, by simp, fun i _ hi => (MapKept.heap_set hh).2 i (fun e => hi (by rw [e]))⟩
  | some p =>
    obtain ⟨j, u⟩ := p
    rw [h] at hf
    obtain ⟨n, u', e1, e2, e3⟩ := seekL_someY h
    rw [Nat.zero_add] at e1
    subst e1
    have hkey : (es[j]?).map (·.key) = some (Q.kv x) := by
      have h1 : (es.toList.map (fun e => (e.key, e.val)))[j]? = some (Q.kv x, u') := by rw [he, List.getElem?_map, e2]; rfl
      rw [List.getElem?_map, Array.getElem?_toList] at h1
      cases hj : es[j]? with
      | none => rw [hj] at h1; cases h1
      | some e => rw [hj] at h1; simp only [Option.map_some, Option.some.injEq, Prod.mk.injEq] at h1; simp [h1.1]
    have hks : (Instr.keyThatStays (((es[j]?).map (·.key)).getD (Q.kv x)) (Q.kv x)).run P w = .ok (Q.kv x) w := by
      rw [hkey]
      simp [Instr.keyThatStays, Q.bits]
    refine ⟨_, by simp [Instr.mapUpdate, run_underlying hm, MapKept.run_getObj_map hh, Q.check, hf, hks, MapKept.run_setObj_map _ hh, Result.andThen]; rfl, ?_, ?_, by simp⟩
    · refine ⟨_, _, (MapKept.heap_set hh).1, ?_⟩
      rw [e3 v]
      apply List.ext_getElem?
      intro i
      have hi : (es.toList.map (fun e => (e.key, e.val)))[i]? = (L.map (fun p => (Q.kv p.1, p.2)))[i]? := by rw [he]
      rw [List.getElem?_map, List.getElem?_map, Array.getElem?_toList] at hi
      rw [List.getElem?_map, List.getElem?_map, Array.getElem?_toList, Array.getElem?_modify, List.getElem?_set]
      by_cases hij : j = i
      · subst hij
        have hl : j < L.length := (List.getElem?_eq_some_iff.1 e2).1
        rw [if_pos rfl, if_pos rfl, if_pos hl]
        cases hj : es[j]? with
        | none => rw [hj] at hkey; cases hkey
        | some e => rfl
      · rw [if_neg hij, if_neg hij]; exact hi
    · exact ⟨rfl, rfl, rfl, by simp, fun i _ hi => (MapKept.heap_set hh).2 i (fun e => hi (by rw [e]))⟩
theorem KeysY.Is.grown {w w' : World} {b : Nat} {L : List (K × Value)} (h : Q.Is w b L) (hb : w'.heap[b]? = w.heap[b]?) : Q.Is w' b L := by
  obtain ⟨es, clock, hh, he⟩ := h
  exact ⟨es, clock, hb.trans hh, he⟩
/-- the stamps of the entries are below the clock, no two alike -/
def StampsY (es : List MapEntry) (clock : Nat) : Prop := (∀ e ∈ es, e.born < clock) ∧ es.Pairwise (fun a b => a.born ≠ b.born)
/-- block b is the map of these keys and values, rightly stamped -/
def KeysY.Has (w : World) (b : Nat) (L : List (K × Value)) : Prop := ∃ es clock, w.heap[b]? = some (.map es clock) ∧ es.toList.map (fun e => (e.key, e.val)) = L.map (fun p => (Q.kv p.1, p.2)) ∧ StampsY es.toList clock
theorem KeysY.Has.is {w : World} {b : Nat} {L : List (K × Value)} (h : Q.Has w b L) : Q.Is w b L := by
  obtain ⟨es, clock, h1, h2, _⟩ := h
  exact ⟨es, clock, h1, h2⟩
theorem KeysY.Has.same {w w' : World} {b : Nat} {L : List (K × Value)} (h : Q.Has w b L) (hb : w'.heap[b]? = w.heap[b]?) : Q.Has w' b L := by
  obtain ⟨es, clock, h1, h2⟩ := h
  exact ⟨es, clock, hb.trans h1, h2⟩
/-- the entry of a key, by its stamp -/
def KeysY.Stamp (w : World) (b : Nat) (x : K) (s : Nat) (L : List (K × Value)) : Prop := ∃ es clock n e, w.heap[b]? = some (.map es clock) ∧ es.toList.map (fun e => (e.key, e.val)) = L.map (fun p => (Q.kv p.1, p.2)) ∧ StampsY es.toList clock ∧ seekLY x L 0 = some (n, e.val) ∧ es[n]? = some e ∧ e.born = s
theorem stamp_findY {es : Array MapEntry} {clock n : Nat} {e : MapEntry} (hs : StampsY es.toList clock) (he : es[n]? = some e) : es.findIdx? (fun x => (x.born : Int) == (e.born : Int)) = some n := by
  obtain ⟨hn, hen⟩ := Array.getElem?_eq_some_iff.1 he
  rw [Array.findIdx?_eq_some_iff_getElem]
  refine ⟨hn, by rw [hen]; simp, fun j hj => ?_⟩
  have hp := List.pairwise_iff_getElem.1 hs.2 j n (by simpa using Nat.lt_trans hj hn) (by simpa using hn) hj
  simp only [Array.getElem_toList] at hp
  rw [hen] at hp
  simp
  omega
theorem map_modifyY {es : Array MapEntry} {L : List (K × Value)} (he : es.toList.map (fun e => (e.key, e.val)) = L.map (fun p => (Q.kv p.1, p.2))) {n : Nat} {x : K} {v : Value} {f : MapEntry → MapEntry} {e : MapEntry} (hen : es[n]? = some e) (hf : ((f e).key, (f e).val) = (Q.kv x, v)) (hl : n < L.length) :
    (es.modify n f).toList.map (fun e => (e.key, e.val)) = (L.set n (x, v)).map (fun p => (Q.kv p.1, p.2)) := by
  apply List.ext_getElem?
  intro i
  have hi : (es.toList.map (fun e => (e.key, e.val)))[i]? = (L.map (fun p => (Q.kv p.1, p.2)))[i]? := by rw [he]
  rw [List.getElem?_map, List.getElem?_map, Array.getElem?_toList] at hi
  rw [List.getElem?_map, List.getElem?_map, Array.getElem?_toList, Array.getElem?_modify, List.getElem?_set]
  by_cases hij : n = i
  · subst hij
    rw [if_pos rfl, if_pos rfl, if_pos hl, hen]
    exact congrArg some hf
  · rw [if_neg hij, if_neg hij]; exact hi
theorem stamps_modifyY {es : Array MapEntry} {clock n : Nat} {f : MapEntry → MapEntry} (hs : StampsY es.toList clock) (hf : ∀ e, (f e).born = e.born) : StampsY (es.modify n f).toList clock := by
  have hb : (es.modify n f).toList.map (·.born) = es.toList.map (·.born) := by
    apply List.ext_getElem?
    intro i
    rw [List.getElem?_map, List.getElem?_map, Array.getElem?_toList, Array.getElem?_toList, Array.getElem?_modify]
    by_cases hij : n = i
    · rw [if_pos hij]; cases es[i]? with
      | none => rfl
      | some e => exact congrArg some (hf e)
    · rw [if_neg hij]
  refine ⟨fun e he => ?_, ?_⟩
  · have : e.born ∈ (es.modify n f).toList.map (·.born) := List.mem_map.2 ⟨e, he, rfl⟩
    rw [hb] at this
    obtain ⟨e', he', h⟩ := List.mem_map.1 this
    rw [← h]; exact hs.1 e' he'
  · have h1 : (es.toList.map (·.born)).Pairwise (· ≠ ·) := List.pairwise_map.2 hs.2
    rw [← hb] at h1
    exact List.pairwise_map.1 h1
theorem seekL_appendY {x : K} {z : Value} : ∀ {L : List (K × Value)} {i : Nat}, seekLY x L i = none → seekLY x (L ++ [(x, z)]) i = some (i + L.length, z) := by
  intro L
  induction L with
  | nil => intro i _; show (if x = x then some (i, z) else _) = _; rw [if_pos rfl]; rfl
  | cons p t ih =>
    obtain ⟨k, u⟩ := p
    intro i h
    unfold seekLY at h
    by_cases hk : x = k
    · rw [if_pos hk] at h; cases h
    · rw [if_neg hk] at h
      show (if x = k then some (i, u) else seekLY x (t ++ [(x, z)]) (i + 1)) = _
      rw [if_neg hk, ih h, List.length_cons]
      congr 2
      omega
theorem seekL_setY {x : K} {v : Value} : ∀ {L : List (K × Value)} {i n : Nat} {u : Value}, seekLY x L i = some (i + n, u) → seekLY x (L.set n (x, v)) i = some (i + n, v) := by
  intro L
  induction L with
  | nil => intro i n u h; cases h
  | cons p t ih =>
    obtain ⟨k, u'⟩ := p
    intro i n u h
    unfold seekLY at h
    by_cases hk : x = k
    · rw [if_pos hk] at h
      simp only [Option.some.injEq, Prod.mk.injEq] at h
      have h0 : n = 0 := by omega
      subst h0
      show (if x = x then some (i, v) else _) = _
      rw [if_pos rfl]; rfl
    · rw [if_neg hk] at h
      obtain ⟨n', _, e1, _⟩ := seekL_someY h
      obtain ⟨n2, rfl⟩ : ∃ n2, n = n2 + 1 := ⟨n - 1, by omega⟩
      show (if x = k then some (i, u') else seekLY x (t.set n2 (x, v)) (i + 1)) = _
      rw [if_neg hk, show i + (n2 + 1) = i + 1 + n2 by omega]
      exact ih (by rw [h, show i + (n2 + 1) = i + 1 + n2 by omega])
theorem seekL_atY {x : K} : ∀ {L : List (K × Value)} {i j : Nat} {v u : Value}, seekLY x L i = some (i + j, v) → L[j]? = some (x, u) → u = v := by
  intro L
  induction L with
  | nil => intro i j v u h; cases h
  | cons p t ih =>
    obtain ⟨k, u'⟩ := p
    intro i j v u h h2
    unfold seekLY at h
    by_cases hk : x = k
    · rw [if_pos hk] at h
      simp only [Option.some.injEq, Prod.mk.injEq] at h
      have h0 : j = 0 := by omega
      subst h0
      simp at h2
      rw [← h2.2]; exact h.2
    · rw [if_neg hk] at h
      obtain ⟨n', _, e1, _⟩ := seekL_someY h
      obtain ⟨j2, rfl⟩ : ∃ j2, j = j2 + 1 := ⟨j - 1, by omega⟩
      exact ih (i := i + 1) (by rw [h, show i + (j2 + 1) = i + 1 + j2 by omega]) (by simpa using h2)
theorem KeysY.entry {mty et : TypeId} (hm : P.underlying mty = some (.map kt et)) {w : World} {b : Nat} {L : List (K × Value)} (x : K) (hx : Q.ok w x) (hok : ∀ p ∈ L, Q.ok w p.1) (hb : Q.Has w b L) {z : Value} (hz : (zeroValue et).run P w = .ok z w) :
    ∃ w' s, (Instr.mapEntry mty (.map (some b)) (Q.kv x)).run P w = .ok (.tuple #[(getLY x L).getD z, .int .i64 (s : Nat)]) w' ∧ Q.Stamp w' b x s (putLY x ((getLY x L).getD z) L) ∧ w.grownBy w' (some b) ∧ w'.heap.size = w.heap.size := by
  obtain ⟨es, clock, hh, he, hst⟩ := hb
  have hf := Q.find w x hx L es.toList hok he
  have hg := seekL_getY x L 0
  cases h : seekLY x L 0 with
  | none =>
    rw [h] at hf hg
    have hg' : getLY x L = none := hg.symm
    rw [hg']
    refine ⟨{ w with heap := w.heap.setIfInBounds b (.map (es.push { key := Q.kv x, val := z, born := clock }) (clock + 1)) }, clock, by simp [Instr.mapEntry, run_underlying hm, MapKept.run_getObj_map hh, Q.check, hf, hz, MapKept.run_setObj_map _ hh, Result.andThen, goInt], ?_, ⟨rfl, rfl, rfl, by simp, fun i _ hi => (MapKept.heap_set hh).2 i (fun e => hi (by rw [e]))⟩, by simp⟩
    refine ⟨es.push { key := Q.kv x, val := z, born := clock }, clock + 1, es.size, { key := Q.kv x, val := z, born := clock }, (MapKept.heap_set hh).1, ?_, ?_, ?_, by simp, rfl⟩
    · rw [seekL_noneY h, Array.toList_push, List.map_append, he, List.map_append]; rfl
    · refine ⟨fun e hee => ?_, ?_⟩
      · rw [Array.toList_push, List.mem_append] at hee
        rcases hee with hee | hee
        · exact Nat.lt_succ_of_lt (hst.1 e hee)
        · rw [List.mem_singleton] at hee; subst hee; exact Nat.lt_succ_self _
      · rw [Array.toList_push, List.pairwise_append]
        refine ⟨hst.2, List.pairwise_singleton _ _, fun a ha c hc => ?_⟩
        rw [List.mem_singleton] at hc; subst hc
        exact Nat.ne_of_lt (hst.1 a ha)
    · show seekLY x (putLY x z L) 0 = some (es.size, z)
      rw [seekL_noneY h]
      have hlen : es.size = L.length := by have := congrArg List.length he; simpa using this
      rw [hlen]
      rw [seekL_appendY h, Nat.zero_add]
  | some p =>
    obtain ⟨j, u⟩ := p
    rw [h] at hf hg
    have hg' : getLY x L = some u := hg.symm
    rw [hg']
    obtain ⟨n, u', e1, e2, e3⟩ := seekL_someY h
    rw [Nat.zero_add] at e1
    subst e1
    have hl : j < L.length := (List.getElem?_eq_some_iff.1 e2).1
    have hlen : es.size = L.length := by have := congrArg List.length he; simpa using this
    obtain ⟨en, hen⟩ : ∃ en, es[j]? = some en := ⟨es[j]'(by omega), Array.getElem?_eq_getElem (by omega)⟩
    have hpair : (en.key, en.val) = (Q.kv x, u') := by
      have h1 : (es.toList.map (fun e => (e.key, e.val)))[j]? = some (Q.kv x, u') := by rw [he, List.getElem?_map, e2]; rfl
      rw [List.getElem?_map, Array.getElem?_toList, hen] at h1
      exact Option.some.inj h1
    simp only [Prod.mk.injEq] at hpair
    have huu : u' = u := by
      exact seekL_atY (i := 0) (by rw [Nat.zero_add]; exact h) e2
    subst huu
    have hks : (Instr.keyThatStays en.key (Q.kv x)).run P w = .ok (Q.kv x) w := by simp [Instr.keyThatStays, hpair.1, Q.bits]
    refine ⟨{ w with heap := w.heap.setIfInBounds b (.map (es.modify j fun e => { e with key := Q.kv x }) clock) }, en.born, by simp [Instr.mapEntry, run_underlying hm, MapKept.run_getObj_map hh, Q.check, hf, hen, hks, MapKept.run_setObj_map _ hh, Result.andThen, goInt], ?_, ⟨rfl, rfl, rfl, by simp, fun i _ hi => (MapKept.heap_set hh).2 i (fun e => hi (by rw [e]))⟩, by simp⟩
    refine ⟨es.modify j fun e => { e with key := Q.kv x }, clock, j, { en with key := Q.kv x }, (MapKept.heap_set hh).1, ?_, stamps_modifyY hst (fun e => rfl), ?_, ?_, rfl⟩
    · show _ = ((putLY x u' L)).map _
      rw [e3]
      exact map_modifyY Q he hen (by rw [hpair.2]) hl
    · show seekLY x (putLY x u' L) 0 = some (j, en.val)
      rw [e3, hpair.2]
      have h2 : seekLY x L 0 = some (0 + j, u') := by rw [Nat.zero_add]; exact h
      rw [seekL_setY h2, Nat.zero_add]
    · rw [Array.getElem?_modify, if_pos rfl, hen]; rfl
/-- the entry is written -/
theorem KeysY.store {mty : TypeId} {w : World} {b : Nat} {L : List (K × Value)} {x : K} {s : Nat} (h : Q.Stamp w b x s L) (v : Value) :
    ∃ w', (Instr.entryStore mty (.map (some b)) (.int .i64 (s : Nat)) v).run P w = .ok () w' ∧ Q.Has w' b (putLY x v L) ∧ w.grownBy w' (some b) ∧ w'.heap.size = w.heap.size := by
  obtain ⟨es, clock, n, e, hh, he, hst, hsk, hen, hbo⟩ := h
  have hfi := stamp_findY hst hen
  rw [hbo] at hfi
  obtain ⟨n', u', e1, e2, e3⟩ := seekL_someY hsk
  rw [Nat.zero_add] at e1
  subst e1
  have hl : n < L.length := (List.getElem?_eq_some_iff.1 e2).1
  refine ⟨{ w with heap := w.heap.setIfInBounds b (.map (es.modify n fun e => { e with val := v }) clock) }, by simp [Instr.entryStore, MapKept.run_getObj_map hh, asInt, asIntOf, hfi, MapKept.run_setObj_map _ hh, Result.andThen], ?_, ⟨rfl, rfl, rfl, by simp, fun i _ hi => (MapKept.heap_set hh).2 i (fun e => hi (by rw [e]))⟩, by simp⟩
  refine ⟨es.modify n fun e => { e with val := v }, clock, (MapKept.heap_set hh).1, ?_, stamps_modifyY hst (fun e => rfl)⟩
  rw [e3]
  have hpair : (e.key, e.val) = (Q.kv x, u') := by
    have h1 : (es.toList.map (fun e => (e.key, e.val)))[n]? = some (Q.kv x, u') := by rw [he, List.getElem?_map, e2]; rfl
    rw [List.getElem?_map, Array.getElem?_toList, hen] at h1
    exact Option.some.inj h1
  simp only [Prod.mk.injEq] at hpair
  exact map_modifyY Q he hen (by rw [hpair.1]) hl
end
theorem findNow_Y (x : ByteArray) : ∀ (L : List (ByteArray × Value)) (es : List MapEntry) (i : Nat), es.map (fun e => (e.key, e.val)) = L.map (fun p => (Value.string p.1, p.2)) → Instr.findNow .string (.string x) es i = some (seekLY x L i) := by
  intro L
  induction L with
  | nil =>
    intro es i h
    have : es = [] := by cases es with | nil => rfl | cons e es => simp at h
    subst this; rfl
  | cons p t ih =>
    obtain ⟨k, v⟩ := p
    intro es i h
    cases es with
    | nil => simp at h
    | cons e es =>
      simp only [List.map_cons, List.cons.injEq, Prod.mk.injEq] at h
      obtain ⟨⟨h1, h2⟩, h3⟩ := h
      have hi := ih es (i + 1) h3
      by_cases hk : x = k
      · subst hk
        have hb : (x == x) = true := (MapKept.bytes_beq _ _).2 rfl
        simp [Instr.findNow, Instr.sameNow, h1, h2, seekLY, hb]
      · have hb : (x == k) = false := by
          cases hq : (x == k)
          · rfl
          · exact absurd ((MapKept.bytes_beq _ _).1 hq) hk
        simp [Instr.findNow, Instr.sameNow, h1, seekLY, hk, hb, hi]
/-- texts as keys -/
def txKeys : KeysY ByteArray Try.prog 9 where
  kv := Value.string
  ok := fun _ _ => True
  find := fun w x _ L es _ h => MapKept.run_findKey Try.underlying9 (findNow_Y x L es 0 h)
  check := fun w em x => MapKept.run_checkKey (k := .string x) Try.underlying9 (by simp [MapKept.IsKey]) em 9999
  bits := fun x => by simp [Instr.sameBits, (MapKept.bytes_beq x x).2 rfl]
end Go.Proofs.Ytbbbmmemfndnlaa
/- Scopes, by the program: what lies in memory, binds. -/
namespace Go.Proofs.Ytbbbmmemfndnlaa
open Go.RowKit
attribute [local go_sem] cell_alloc_is frozen_alloc_is
abbrev Lev := List (ByteArray × Value)
/-- each name of a scope is counted -/
def LevOk (L : Lev) : Prop := ∀ q ∈ L, ∃ n : Nat, 0 < n ∧ n ≤ 2000000 ∧ q.2 = .int .i64 n
/-- scopes that lie from a pointer on, the innermost first -/
def ScIn (w : World) : Option Addr → List Lev → Prop
  | p, [] => p = none
  | p, L :: rest => ∃ sb mb o, p = some ⟨sb, 0, none⟩ ∧ w.heap[sb]? = some (.cells #[.map (some mb), .pointer o] 97 (0, 0)) ∧ txKeys.Is w mb L ∧ LevOk L ∧ ScIn w o rest
/-- whether a name is bound -/
def scHas (t : ByteArray) (Ls : List Lev) : Bool := Ls.any (fun L => (getLY t L).isSome)
/-- what scopes need of what is written -/
def KeepS (w w' : World) : Prop := (∀ (x : Nat) (cs : Array Value), w.heap[x]? = some (Obj.cells cs 97 (0, 0)) → w'.heap[x]? = w.heap[x]?) ∧ ∀ (x : Nat) (es : Array MapEntry) (cl : Nat), w.heap[x]? = some (Obj.map es cl) → w'.heap[x]? = w.heap[x]?
theorem ScIn.keep {w w' : World} (h : KeepS w w') : ∀ {Ls : List Lev} {p : Option Addr}, ScIn w p Ls → ScIn w' p Ls := by
  intro Ls
  induction Ls with
  | nil => intro p hp; exact hp
  | cons L rest ih =>
    rintro p ⟨sb, mb, o, e1, e2, ⟨es, cl, e3, e4⟩, e5, e6⟩
    exact ⟨sb, mb, o, e1, (h.1 _ _ e2).trans e2, ⟨es, cl, (h.2 _ _ _ e3).trans e3, e4⟩, e5, ih e6⟩
theorem KeepS.of_below {w w' : World} (h : Below w.heap.size w w') : KeepS w w' :=
  ⟨fun x _ hx => h.block x (Array.getElem?_eq_some_iff.1 hx).1, fun x _ _ hx => h.block x (Array.getElem?_eq_some_iff.1 hx).1⟩
theorem KeepS.of_wr {B lb : Nat} {w w' : World} {ns : List ByteArray} (h : Wr B lb w w') (hn : NL B w lb ns) : KeepS w w' := by
  obtain ⟨a, c, _, ⟨cs0, h2, _⟩, _⟩ := hn
  refine ⟨fun x cs hx => h.2 x (Array.getElem?_eq_some_iff.1 hx).1 (fun e => ?_) (.inr fun cs' z e => ?_), fun x es cl hx => h.2 x (Array.getElem?_eq_some_iff.1 hx).1 (fun e => ?_) (.inr fun cs' z e => ?_)⟩
  · subst e; rw [h2] at hx; cases hx
  · rw [e] at hx; cases hx
  · subst e; rw [h2] at hx; cases hx
  · rw [e] at hx; cases hx
theorem lev_get {L : Lev} (h : LevOk L) (t : ByteArray) : ∃ n : Nat, n ≤ 2000000 ∧ (getLY t L).getD (.int .i64 0) = .int .i64 n ∧ (0 < n ↔ (getLY t L).isSome = true) := by
  induction L with
  | nil => exact ⟨0, by omega, rfl, by simp [getLY]⟩
  | cons q rest ih =>
    obtain ⟨k, v⟩ := q
    unfold getLY
    by_cases hk : t = k
    · rw [if_pos hk]
      obtain ⟨n, h1, h2, h3⟩ := h (k, v) List.mem_cons_self
      have h3' : v = .int .i64 n := h3
      exact ⟨n, h2, by rw [h3']; rfl, by simp [h1]⟩
    · rw [if_neg hk]
      exact ih (fun q hq => h q (List.mem_cons_of_mem _ hq))
theorem exists_leastY {P : Nat → Prop} (h : ∃ n, P n) : ∃ n, P n ∧ ∀ m, P m → n ≤ m := by
  obtain ⟨n, hn⟩ := h
  induction n using Nat.strongRecOn with
  | ind n ih =>
    by_cases hm : ∃ m, m < n ∧ P m
    · obtain ⟨m, h1, h2⟩ := hm; exact ih m h1 h2
    · exact ⟨n, hn, fun m hP => Nat.le_of_not_lt fun h => hm ⟨m, h, hP⟩⟩
open Classical in
/-- the leastY number of which something holds -/
noncomputable def leastY (P : Nat → Prop) : Nat := if h : ∃ n, P n then Classical.choose (exists_leastY h) else 0
theorem leastY_spec {P : Nat → Prop} (h : ∃ n, P n) : P (leastY P) := by
  unfold leastY
  rw [dif_pos h]
  exact (Classical.choose_spec (exists_leastY h)).1
theorem leastY_le {P : Nat → Prop} {n : Nat} (h : P n) : leastY P ≤ n := by
  unfold leastY
  rw [dif_pos ⟨n, h⟩]
  exact (Classical.choose_spec (exists_leastY ⟨n, h⟩)).2 n h
theorem sc_least {w : World} {sb mb : Nat} {o : Option Addr} (h : w.heap[sb]? = some (.cells #[.map (some mb), .pointer o] 97 (0, 0))) (hex : ∃ Rs, ScIn w (some ⟨sb, 0, none⟩) Rs) :
    leastY (fun n => ∃ (q : Option Addr) (Rs : List Lev), Value.pointer o = .pointer q ∧ ScIn w q Rs ∧ Rs.length = n) < leastY (fun n => ∃ (q : Option Addr) (Rs : List Lev), Value.pointer (some ⟨sb, 0, none⟩) = .pointer q ∧ ScIn w q Rs ∧ Rs.length = n) := by
  obtain ⟨Rs, hR⟩ := hex
  obtain ⟨q, Rs', e1, e2, e3⟩ := leastY_spec (P := fun n => ∃ (q : Option Addr) (Rs : List Lev), Value.pointer (some ⟨sb, 0, none⟩) = .pointer q ∧ ScIn w q Rs ∧ Rs.length = n) ⟨Rs.length, _, Rs, rfl, hR, rfl⟩
  cases e1
  rw [← e3]
  cases Rs' with
  | nil => cases e2
  | cons L rest =>
    obtain ⟨sb', mb', o', f1, f2, _, _, f5⟩ := e2
    cases f1
    rw [h] at f2
    cases f2
    exact Nat.lt_succ_of_le (leastY_le ⟨o, rest, rfl, f5, rfl⟩)
set_option maxHeartbeats 1000000 in
theorem binds_any (Ls : List Lev) (p : Option Addr) (t : ByteArray) (w : World) (h : ScIn w p Ls) :
    Calls Try.prog 56 #[.pointer p, .string t] w fun r w' => r = .returned (.bool (scHas t Ls)) ∧ w' = w := by
  have hz : ∀ w, (zeroValue 3).run Try.prog w = .ok (.int .i64 0) w := fun w => by kernel_rfl
  go_enter Try.func56, Try.ntmps56
  go_wp2_with fail
  go_loopw [0] (fun s wr => ∃ (q : Option Addr) (Rs : List Lev), s = .pointer q ∧ ScIn w q Rs ∧ scHas t Ls = scHas t Rs ∧ wr = w) (fun s _ => leastY (fun n => ∃ (q : Option Addr) (Rs : List Lev), s = .pointer q ∧ ScIn w q Rs ∧ Rs.length = n))
  case atStart => exact ⟨p, Ls, rfl, h, rfl, rfl⟩
  case round =>
    obtain ⟨q, Rs, rfl, hq, hh, rfl⟩ := hrel
    cases Rs with
    | nil =>
      have hq' : q = none := hq
      subst hq'
      have HH : Hid (scHas t Ls = false) := hh
      clear hh hq h
      go_wp2_with fail
      go_ret
      exact ⟨by rw [HH.out]; rfl, rfl⟩
    | cons L rest =>
      have HM : Hid (ScIn wr q (L :: rest)) := hq
      obtain ⟨sb, mb, o, rfl, e2, e3, e4, e5⟩ := hq
      obtain ⟨n, hn1, hn2, hn3⟩ := lev_get e4 t
      have hlook0 := txKeys.look (mty := 92) (et := 3) Try.underlying92 t trivial (fun _ _ => trivial) e3 (hz wr)
      rw [hn2] at hlook0
      have hlook : (Instr.lookup 92 (.map (some mb)) (.string t) false).run Try.prog wr = .ok (.int .i64 n) wr := hlook0
      have hc0 : wr.cell? ⟨sb, 0, none⟩ = some (.map (some mb)) := by simp [World.cell?, e2]
      have hc1 : wr.cell? ⟨sb, 1, none⟩ = some (.pointer o) := by simp [World.cell?, e2]
      have HE : Hid (ScIn wr o rest) := e5
      have HL := sc_least e2 ⟨_, HM.out⟩
      clear hlook0 e2 e3 e4 e5 hz h hn2
      by_cases hpos : 0 < n
      · have HH : Hid (scHas t Ls = true) := by
          unfold Hid; rw [hh]; unfold scHas; rw [List.any_cons, hn3.1 hpos]; rfl
        have hgt : decide ((n : Int) > 0) = true := by simp; exact hpos
        clear hh hn3
        go_wp2_with fail
        go_ret
        exact ⟨by rw [HH.out]; rfl, rfl⟩
      · have HH : Hid (scHas t Ls = scHas t rest) := by
          have e : (getLY t L).isSome = false := by
            cases hq : (getLY t L).isSome
            · rfl
            · exact absurd (hn3.2 hq) hpos
          unfold Hid; rw [hh]; unfold scHas; rw [List.any_cons, e]; rfl
        have hn0 : n = 0 := by omega
        clear hh hn3 hpos
        subst hn0
        go_wp2_with fail
        go_round
        case rel => exact ⟨o, rest, rfl, HE.out, HH.out, trivial⟩
        case measure => exact HL
end Go.Proofs.Ytbbbmmemfndnlaa
/- Scopes, by the program: the scope of what stands below a tree. -/
namespace Go.Proofs.Ytbbbmmemfndnlaa
open Go.RowKit
attribute [local go_sem] cell_alloc_is frozen_alloc_is
/-- each name is counted, so often at most -/
def LevB (B : Nat) (L : Lev) : Prop := ∀ q ∈ L, ∃ n : Nat, 0 < n ∧ n ≤ B ∧ q.2 = .int .i64 n
theorem levB_get {B : Nat} {L : Lev} (h : LevB B L) (t : ByteArray) : ∃ n : Nat, n ≤ B ∧ (getLY t L).getD (.int .i64 0) = .int .i64 n := by
  induction L with
  | nil => exact ⟨0, Nat.zero_le _, rfl⟩
  | cons q rest ih =>
    obtain ⟨k, v⟩ := q
    unfold getLY
    by_cases hk : t = k
    · rw [if_pos hk]
      obtain ⟨n, h1, h2, h3⟩ := h (k, v) List.mem_cons_self
      have h3' : v = .int .i64 n := h3
      exact ⟨n, h2, by rw [h3']; rfl⟩
    · rw [if_neg hk]
      exact ih (fun q hq => h q (List.mem_cons_of_mem _ hq))
theorem putLY_mem {s : ByteArray} {v : Value} : ∀ {L : Lev} {q : ByteArray × Value}, q ∈ putLY s v L → q = (s, v) ∨ q ∈ L := by
  intro L
  induction L with
  | nil => intro q hq; exact .inl (by simpa [putLY] using hq)
  | cons p t ih =>
    obtain ⟨k, u⟩ := p
    intro q hq
    unfold putLY at hq
    split at hq
    · rcases List.mem_cons.1 hq with hq | hq
      · exact .inl hq
      · exact .inr (List.mem_cons_of_mem _ hq)
    · rcases List.mem_cons.1 hq with hq | hq
      · exact .inr (by rw [hq]; exact List.mem_cons_self)
      · rcases ih hq with h | h
        · exact .inl h
        · exact .inr (List.mem_cons_of_mem _ h)
theorem levB_put {B n : Nat} {L : Lev} {s : ByteArray} (h : LevB B L) (hn : n ≤ B) : LevB (B + 1) (putLY s (.int .i64 ((n : Int) + 1)) L) := by
  intro q hq
  rcases putLY_mem hq with rfl | hq
  · exact ⟨n + 1, Nat.succ_pos _, Nat.succ_le_succ hn, by simp⟩
  · obtain ⟨m, h1, h2, h3⟩ := h q hq
    exact ⟨m, h1, by omega, h3⟩
theorem scHas_cons (t : ByteArray) (L : Lev) (Ls : List Lev) : scHas t (L :: Ls) = ((getLY t L).isSome || scHas t Ls) := rfl
theorem SIn.at {w : World} {ss : List ByteArray} {a : Option Addr} (h : SIn w ss a) {j : Nat} (hj : j < ss.length) : ∃ b o s, a = some ⟨b, o, none⟩ ∧ ss[j]? = some s ∧ w.cell? ⟨b, o + j, none⟩ = some (.string s) := by
  obtain ⟨hl, _⟩ := h.lies
  have e := List.getElem?_eq_getElem hj
  rcases hl with hl | ⟨b, o, e1, e2⟩
  · have : (texts ss).length = 0 := by rw [hl]; rfl
    unfold texts at this; rw [List.length_map] at this; omega
  · exact ⟨b, o, ss[j], e1, e, e2 j _ (by unfold texts; rw [List.getElem?_map, e]; rfl)⟩
set_option maxRecDepth 100000 in
set_option maxHeartbeats 1000000 in
theorem scBelow_any (Ls : List Lev) (p : Option Addr) (k : Int) (t : ByteArray) (m e : Int) (a : Option Addr) (c : Nat) (F : Fo) (j : Nat) (w : World) (h : ScIn w p Ls) (hin : F.In w a) (hl : F.len ≤ c) (hc : c ≤ maxLen) (ht : t.size ≤ maxLen) (hlam : lamOk k F) (hj : j < F.len) (hF : F.size ≤ 1060000) :
    Calls Try.prog 57 #[.pointer p, nodeV k t m e a F.len c, .int .i64 (j : Nat)] w fun r w' => (∃ p' Ls', r = .returned (.pointer p') ∧ ScIn w' p' Ls' ∧ ∀ x, scHas x Ls' = (scHas x Ls || hasT x (bnd k t F j))) ∧ Below w.heap.size w w' := by
  have hb0 : Below w.heap.size w (w.alloc (.cells #[.int .i64 k, .string t, .int .i64 m, .int .i64 e, .slice a F.len c] 33)) := (Below.refl _ _).alloc (Nat.le_refl _) _
  have f0 := Five.new w (.int .i64 k) (.string t) (.int .i64 m) (.int .i64 e) (.slice a F.len c) 33
  have HS : Hid (∀ w', Below w.heap.size w w' → ScIn w' p Ls) := fun w' hb => h.keep (KeepS.of_below hb)
  have hz : ∀ w, (zeroValue 3).run Try.prog w = .ok (.int .i64 0) w := fun w => by kernel_rfl
  have hBN := boundNames_any k t m e a c F _ (hin.grow hb0) hl hc ht hlam.1 hF
  have hll := F.len_le
  by_cases hA : k = 21 ∧ j = 0
  · have HE : Hid (bnd k t F j = []) := by
      unfold Hid bnd
      rw [if_neg (by omega), if_neg (by omega)]
    have hk : (k == 21) = true := by simp [hA.1]
    obtain ⟨-, rfl⟩ := hA
    clear hBN hin h hlam hj hz
    go_enter Try.func57, Try.ntmps57
    go_wp2_with fail
    go_ret
    exact ⟨⟨p, Ls, rfl, HS.out _ hb0, fun x => by rw [HE.out]; simp [hasT]⟩, hb0⟩
  · have HE : Hid (bnd k t F j = bndN k t F) := by
      unfold Hid bnd bndN
      by_cases h15 : k = 15
      · rw [if_pos (.inl h15), if_pos (.inl h15)]
      · by_cases h21 : k = 21
        · have := hlam.2 h21
          rw [if_pos (.inr ⟨h21, by omega⟩), if_pos (.inr h21)]
        · rw [if_neg (show ¬ (k = 15 ∨ (k = 21 ∧ j = 1)) by omega), if_neg (show ¬ (k = 15 ∨ k = 21) by omega)]
    have hnl : (bndN k t F).length ≤ 1060000 := by
      unfold bndN
      split
      · simp
      · split
        · rw [List.length_take]; omega
        · simp
    have hcs : ((k == 21) = true ∧ ((j : Int) == 0) = false) ∨ (k == 21) = false := by
      by_cases h21 : k = 21
      · exact .inl ⟨by simp [h21], by simp; omega⟩
      · exact .inr (by simp [h21])
    generalize hns : bndN k t F = ns at *
    clear hA hns hin h hlam
    have hmm := @run_makeMap Try.prog
    rcases hcs with ⟨hk, hj0⟩ | hk
    all_goals
      go_enter Try.func57, Try.ntmps57
      go_wp2_with fail
      refine hBN.mono ?_
      rintro r w1 ⟨⟨a1, c1, rfl, hS1, hc1⟩, hb1⟩
      have hB1 := hb0.trans (hb1.mono hb0.size)
      clear hb1 hb0 f0 hBN
      by_cases hn0 : ns.length = 0
      · have HN : Hid (ns = []) := List.eq_nil_of_length_eq_zero hn0
        rw [hn0]
        clear hn0 hS1 hc1
        go_wp2_with fail
        go_ret
        exact ⟨⟨p, Ls, rfl, HS.out _ hB1, fun x => by rw [HE.out, HN.out]; simp [hasT]⟩, hB1⟩
      · have hn1 : (((ns.length : Nat) : Int) == 0) = false := by simp; intro hh; exact hn0 (by rw [hh]; rfl)
        clear hn0
        obtain ⟨V, hV⟩ : ∃ V, V = (w1.alloc (.map #[] 0)).alloc (.cells #[.map (some w1.heap.size), .pointer p] 97) := ⟨_, rfl⟩
        have hBV : Below w1.heap.size w1 V := by rw [hV]; exact ((Below.refl _ _).alloc (Nat.le_refl _) _).alloc (by simp) _
        have hVm : V.heap[w1.heap.size]? = some (.map #[] 0) := by rw [hV]; exact (Below.heap_alloc _ _ _ (by simp)).trans (World.alloc_heap_new w1 _)
        have hVs : V.heap[w1.heap.size + 1]? = some (.cells #[.map (some w1.heap.size), .pointer p] 97 (0, 0)) := by rw [hV]; have := World.alloc_heap_new (w1.alloc (.map #[] 0)) (.cells #[.map (some w1.heap.size), .pointer p] 97); rwa [World.size_alloc] at this
        go_wp2_with fail
        rw [← hV]
        clear hV
        obtain ⟨mb, hmb⟩ : ∃ mb, w1.heap.size = mb := ⟨_, rfl⟩
        rw [hmb] at hVm hVs
        rw [hmb]
        have hz1 : w1.heap.size ≤ mb := by omega
        clear hmb
        have HI0 : txKeys.Is V mb [] := ⟨#[], 0, hVm, rfl⟩
        have HS1 : Hid (SIn w1 ns a1) := hS1
        have hcm : c1 ≤ 2 ^ 63 - 1 := hc1.2
        clear hVm hS1
        go_loopw [30] (fun i wr => ∃ (j' : Nat) (L : Lev), i = .int .i64 j' ∧ j' ≤ ns.length ∧ txKeys.Is wr mb L ∧ LevB j' L ∧ (∀ x, (getLY x L).isSome = true ↔ x ∈ ns.take j') ∧ wr.heap[mb + 1]? = some (.cells #[.map (some mb), .pointer p] 97 (0, 0)) ∧ Below w1.heap.size w1 wr) (fun i _ => ns.length - (intOf i).toNat)
        case atStart => exact ⟨0, [], rfl, Nat.zero_le _, HI0, (fun q hq => by cases hq), (fun x => by simp [getLY]), hVs, hBV⟩
        case round =>
          obtain ⟨j', L, rfl, hjn, hIs, hLB, hget, hbox, hb⟩ := hrel
          have HG : Hid (∀ x, (getLY x L).isSome = true ↔ x ∈ ns.take j') := hget
          clear hget
          by_cases hlt : j' < ns.length
          · have hlt' : (j' : Int) < (ns.length : Int) := by omega
            obtain ⟨b, o, s, rfl, hs, hcell⟩ := (HS1.out.grow hb).at hlt
            obtain ⟨n, hn1, hn2⟩ := levB_get hLB s
            have hlook0 := txKeys.look (mty := 92) (et := 3) Try.underlying92 s trivial (fun _ _ => trivial) hIs (hz wr)
            rw [hn2] at hlook0
            have hlook : (Instr.lookup 92 (.map (some mb)) (.string s) false).run Try.prog wr = .ok (.int .i64 n) wr := hlook0
            obtain ⟨w2, hput0, hIs2, hg2, hsz2⟩ := txKeys.put (mty := 92) (et := 3) Try.underlying92 s (.int .i64 ((n : Int) + 1)) trivial (fun _ _ => trivial) hIs
            have hput : (Instr.mapUpdate 92 (.map (some mb)) (.string s) (.int .i64 ((n : Int) + 1))).run Try.prog wr = .ok () w2 := hput0
            have hnb : n ≤ 2000000 := by omega
            have hc0 : wr.cell? ⟨mb + 1, 0, none⟩ = some (.map (some mb)) := by simp [World.cell?, hbox]
            have hb2 : Below w1.heap.size w1 w2 := hb.grown hg2 hb.size (fun k hk => by cases hk; exact hz1)
            have hbox2 : w2.heap[mb + 1]? = some (.cells #[.map (some mb), .pointer p] 97 (0, 0)) := (hg2.block _ (Array.getElem?_eq_some_iff.1 hbox).1 (fun e => by have := Option.some.inj e; omega)).trans hbox
            have HF : Hid (txKeys.Is w2 mb (putLY s (.int .i64 ((n : Int) + 1)) L) ∧ LevB (j' + 1) (putLY s (.int .i64 ((n : Int) + 1)) L) ∧ (∀ x, (getLY x (putLY s (.int .i64 ((n : Int) + 1)) L)).isSome = true ↔ x ∈ ns.take (j' + 1)) ∧ w2.heap[mb + 1]? = some (.cells #[.map (some mb), .pointer p] 97 (0, 0)) ∧ Below w1.heap.size w1 w2) := by
              refine ⟨hIs2, levB_put hLB hn1, fun x => ?_, hbox2, hb2⟩
              rw [getL_putY, List.take_add_one, hs, Option.toList_some, List.mem_append, List.mem_singleton, ← HG.out x]
              by_cases hx : x = s
              · simp [hx]
              · simp [hx]
            clear hlook0 hput0 hIs hIs2 hg2 hsz2 hb2 hbox2 hLB hb hbox hn2 hs
            go_wp2_with fail
            go_round
            case rel => exact ⟨j' + 1, _, by go_num, by omega, HF.out.1, HF.out.2.1, HF.out.2.2.1, HF.out.2.2.2.1, HF.out.2.2.2.2⟩
            case measure => simp [intOf]; omega
          · have hlt' : ¬ (j' : Int) < (ns.length : Int) := by omega
            have hjj : j' = ns.length := by omega
            have hFin : Hid (ScIn wr (some ⟨mb + 1, 0, none⟩) (L :: Ls)) := ⟨mb + 1, mb, p, rfl, hbox, hIs, fun q hq => by
              obtain ⟨n, h1, h2, h3⟩ := hLB q hq
              exact ⟨n, h1, by omega, h3⟩, HS.out _ (hB1.trans (hb.mono hB1.size))⟩
            have hbB := hB1.trans (hb.mono hB1.size)
            clear hIs hLB hbox hb
            go_wp2_with fail
            go_ret
            refine ⟨⟨some ⟨mb + 1, 0, none⟩, rfl, L :: Ls, hFin.out, fun x => ?_⟩, hbB⟩
            rw [HE.out, scHas_cons, Bool.or_comm]
            congr 1
            have := HG.out x
            rw [hjj, List.take_length, ← hasT_iff] at this
            exact Bool.eq_iff_iff.2 this
end Go.Proofs.Ytbbbmmemfndnlaa
/- Names from outside, by the program: the region that goes into a tree below. -/
namespace Go.Proofs.Ytbbbmmemfndnlaa
open Go.RowKit
attribute [local go_sem] cell_alloc_is frozen_alloc_is
/-- a tree in a box of its own -/
def BoxN (w : World) (b : Nat) (k : Int) (t : ByteArray) (m e : Int) (s : Value) : Prop := w.heap[b]? = some (.cells #[.int .i64 k, .string t, .int .i64 m, .int .i64 e, s] 33 (0, 0))
theorem BoxN.new (w : World) (k : Int) (t : ByteArray) (m e : Int) (s : Value) : BoxN (w.alloc (.cells #[.int .i64 k, .string t, .int .i64 m, .int .i64 e, s] 33)) w.heap.size k t m e s := World.alloc_heap_new w _
theorem BoxN.lt {w : World} {b : Nat} {k : Int} {t : ByteArray} {m e : Int} {s : Value} (h : BoxN w b k t m e s) : b < w.heap.size := (Array.getElem?_eq_some_iff.1 h).1
theorem BoxN.below {w w' : World} {b : Nat} {k : Int} {t : ByteArray} {m e : Int} {s : Value} (h : BoxN w b k t m e s) (hb : Below w.heap.size w w') : BoxN w' b k t m e s := (hb.block b h.lt).trans h
theorem BoxN.cells {w : World} {b : Nat} {k : Int} {t : ByteArray} {m e : Int} {s : Value} (h : BoxN w b k t m e s) : w.cell? ⟨b, 0, none⟩ = some (.int .i64 k) ∧ w.cell? ⟨b, 1, none⟩ = some (.string t) ∧ w.cell? ⟨b, 2, none⟩ = some (.int .i64 m) ∧ w.cell? ⟨b, 3, none⟩ = some (.int .i64 e) ∧ w.cell? ⟨b, 4, none⟩ = some s := by
  unfold BoxN at h
  refine ⟨?_, ?_, ?_, ?_, ?_⟩ <;> simp [World.cell?, h]
theorem BoxN.wr {B lb : Nat} {w w' : World} {ns : List ByteArray} {b : Nat} {k : Int} {t : ByteArray} {m e : Int} {s : Value} (h : BoxN w b k t m e s) (hw : Wr B lb w w') (hn : NL B w lb ns) : BoxN w' b k t m e s := by
  obtain ⟨a, c, _, ⟨cs0, h2, _⟩, _⟩ := hn
  refine (hw.2 b h.lt (fun e => ?_) (.inr fun cs' z e => ?_)).trans h
  · subst e; rw [BoxN, h2] at h; cases h
  · rw [BoxN, e] at h; cases h
set_option maxRecDepth 100000 in
set_option maxHeartbeats 2000000 in
theorem la6 {Q : Exit → Act → World → Prop} {t1 t3 t5 t8 t9 t10 t11 t12 t13 t14 t15 t16 t17 t18 t19 t20 t21 t22 t23 t24 t25 t26 t27 t28 t29 t30 t31 t32 t33 t34 t35 t36 t37 : Value} {W : World} {lb nb kb j : Nat} {p : Option Addr} {k m e k' m' e' : Int} {t t' : ByteArray} {s s' : Value} {RB : Option Addr → World → Prop} {RC : World → Prop}
    (hn : BoxN W nb k t m e s) (hk : BoxN W kb k' t' m' e' s')
    (HB : ∀ w', Below W.heap.size W w' → Calls Try.prog 57 #[.pointer p, .agg #[.int .i64 k, .string t, .int .i64 m, .int .i64 e, s], .int .i64 (j : Nat)] w' fun r w2 => ∃ p', r = .returned (.pointer p') ∧ RB p' w2 ∧ Below w'.heap.size w' w2)
    (HC : ∀ w' p', Below W.heap.size W w' → RB p' w' → Calls Try.prog 29 #[.pointer (some ⟨lb, 0, none⟩), .agg #[.int .i64 k', .string t', .int .i64 m', .int .i64 e', s'], .pointer p'] w' fun r w2 => r = .returned (.tuple #[]) ∧ (BoxN w2 nb k t m e s ∧ BoxN w2 kb k' t' m' e' s') ∧ RC w2)
    (hp : ∀ p d v a w, Q (.panic p) (Act.put a d v) w → Q (.panic p) a w) (h : ∀ W1 v30 v31 v32 v33 v34 v35 v36, BoxN W1 nb k t m e s → RC W1 → Q .normal { tmps := (.pointer (some ⟨lb, 0, none⟩) :: t1 :: .pointer p :: t3 :: .pointer (some ⟨nb, 0, none⟩) :: t5 :: .int .i64 (j : Nat) :: .pointer (some ⟨kb, 0, none⟩) :: t8 :: t9 :: t10 :: t11 :: t12 :: t13 :: t14 :: t15 :: t16 :: t17 :: t18 :: t19 :: t20 :: t21 :: t22 :: t23 :: t24 :: t25 :: t26 :: t27 :: t28 :: t29 :: v30 :: v31 :: v32 :: v33 :: v34 :: v35 :: v36 :: t37 :: []).toArray, defers := [] } W1) :
    Code.wp Try.prog (Code.region 6 #[{ dst := some 30, op := Op.move (Operand.tmp 0), type := 74, pos := "l6_scope.go:80", after := #[], guard := none }, { dst := some 31, op := Op.load 33 (Operand.tmp 7), type := 33, pos := "l6_scope.go:80", after := #[], guard := none }, { dst := some 32, op := Op.move (Operand.tmp 2), type := 75, pos := "l6_scope.go:80", after := #[], guard := none }, { dst := some 33, op := Op.load 33 (Operand.tmp 4), type := 33, pos := "l6_scope.go:80", after := #[], guard := none }, { dst := some 34, op := Op.move (Operand.tmp 6), type := 3, pos := "l6_scope.go:80", after := #[], guard := none }, { dst := some 35, op := Op.call { callee := Callee.value (Operand.func 57), args := #[Operand.tmp 32, Operand.tmp 33, Operand.tmp 34], argTypes := #[75, 33, 3] }, type := 75, pos := "l6_scope.go:80", after := #[{ on := 2, ground := Ground.data }, { on := 3, ground := Ground.data }, { on := 4, ground := Ground.data }], guard := none }, { dst := some 36, op := Op.call { callee := Callee.value (Operand.func 29), args := #[Operand.tmp 30, Operand.tmp 31, Operand.tmp 35], argTypes := #[74, 33, 75] }, type := 0, pos := "l6_scope.go:80", after := #[{ on := 0, ground := Ground.data }, { on := 1, ground := Ground.data }, { on := 5, ground := Ground.data }, { on := 5, ground := Ground.chain }], guard := none }] true) Q { tmps := (.pointer (some ⟨lb, 0, none⟩) :: t1 :: .pointer p :: t3 :: .pointer (some ⟨nb, 0, none⟩) :: t5 :: .int .i64 (j : Nat) :: .pointer (some ⟨kb, 0, none⟩) :: t8 :: t9 :: t10 :: t11 :: t12 :: t13 :: t14 :: t15 :: t16 :: t17 :: t18 :: t19 :: t20 :: t21 :: t22 :: t23 :: t24 :: t25 :: t26 :: t27 :: t28 :: t29 :: t30 :: t31 :: t32 :: t33 :: t34 :: t35 :: t36 :: t37 :: []).toArray, defers := [] } W := by
  have hB0 : Below W.heap.size W W.drew := (Below.refl _ W).drew
  have HS : Hid (∀ w', Below W.heap.size W w' → BoxN w' nb k t m e s ∧ BoxN w' kb k' t' m' e' s') := fun w' h => ⟨hn.below h, hk.below h⟩
  have hS0 := HS.out _ hB0
  clear hn hk
  refine wp_region_held_drew (S := fun w' => BoxN w' nb k t m e s ∧ BoxN w' kb k' t' m' e' s') (by kernel_rfl) hS0 (fun hHeld => ?_)
  generalize W.drew = Wd at *
  refine wpAnyH_take (i := 0) (v := .pointer (some ⟨lb, 0, none⟩)) rfl (by kernel_rfl) (by kernel_rfl) (by kernel_rfl) (fun _ _ _ h => hp _ _ _ _ _ h) (Or.inl ⟨by rfl, ?_⟩) (by assumption) ?_
  · intro w hSw
    (try dsimp only at hSw)
    go_simp
  (try simp only [Act.put, List.getElem_toArray, List.getElem_cons_zero, List.setIfInBounds_toArray, List.set_cons_zero, List.set_cons_succ])
  refine wpAnyH_take (i := 1) (v := .agg #[.int .i64 k', .string t', .int .i64 m', .int .i64 e', s']) rfl (by kernel_rfl) (by kernel_rfl) (by kernel_rfl) (fun _ _ _ h => hp _ _ _ _ _ h) (Or.inl ⟨by rfl, ?_⟩) (by assumption) ?_
  · intro w hSw
    (try dsimp only at hSw)
    (obtain ⟨a0, a1⟩ := hSw; obtain ⟨x0, x1, x2, x3, x4⟩ := a0.cells; obtain ⟨y0, y1, y2, y3, y4⟩ := a1.cells; clear a0 a1; go_simp)
  (try simp only [Act.put, List.getElem_toArray, List.getElem_cons_zero, List.getElem_cons_succ, List.setIfInBounds_toArray, List.set_cons_zero, List.set_cons_succ])
  refine wpAnyH_take (i := 2) (v := .pointer p) rfl (by kernel_rfl) (by kernel_rfl) (by kernel_rfl) (fun _ _ _ h => hp _ _ _ _ _ h) (Or.inl ⟨by rfl, ?_⟩) (by assumption) ?_
  · intro w hSw
    (try dsimp only at hSw)
    go_simp
  (try simp only [Act.put, List.getElem_toArray, List.getElem_cons_zero, List.getElem_cons_succ, List.setIfInBounds_toArray, List.set_cons_zero, List.set_cons_succ])
  refine wpAnyH_take (i := 3) (v := .agg #[.int .i64 k, .string t, .int .i64 m, .int .i64 e, s]) rfl (by kernel_rfl) (by kernel_rfl) (by kernel_rfl) (fun _ _ _ h => hp _ _ _ _ _ h) (Or.inl ⟨by rfl, ?_⟩) (by assumption) ?_
  · intro w hSw
    (try dsimp only at hSw)
    (obtain ⟨a0, a1⟩ := hSw; obtain ⟨x0, x1, x2, x3, x4⟩ := a0.cells; obtain ⟨y0, y1, y2, y3, y4⟩ := a1.cells; clear a0 a1; go_simp)
  (try simp only [Act.put, List.getElem_toArray, List.getElem_cons_zero, List.getElem_cons_succ, List.setIfInBounds_toArray, List.set_cons_zero, List.set_cons_succ])
  refine wpAnyH_take (i := 4) (v := .int .i64 (j : Nat)) rfl (by kernel_rfl) (by kernel_rfl) (by kernel_rfl) (fun _ _ _ h => hp _ _ _ _ _ h) (Or.inl ⟨by rfl, ?_⟩) (by assumption) ?_
  · intro w hSw
    (try dsimp only at hSw)
    go_simp
  (try simp only [Act.put, List.getElem_toArray, List.getElem_cons_zero, List.getElem_cons_succ, List.setIfInBounds_toArray, List.set_cons_zero, List.set_cons_succ])
  refine wpAnyH_ready (rs := [5]) (by kernel_rfl) (by simp) ?_
  refine AllReadyH.cons rfl (fun K hK => ?_) AllReadyH.nil
  go_simp
  refine (HB _ hB0).mono ?_
  rintro r W3 ⟨p', rfl, hR, hb⟩
  have hB1 := hB0.trans (hb.mono hB0.size)
  have hS1 := HS.out _ hB1
  go_wp2_with fail
  refine hK.out _ _ hS1 (fun hHeld2 => ?_)
  clear hK K hHeld hS0 hb hHeld2 hS1
  (try simp only [Act.put, List.getElem_toArray, List.getElem_cons_zero, List.getElem_cons_succ, List.setIfInBounds_toArray, List.set_cons_zero, List.set_cons_succ])
  refine wpAnyH_ready (rs := [6]) (by kernel_rfl) (by simp) ?_
  refine AllReadyH.cons rfl (fun K hK => ?_) AllReadyH.nil
  go_simp
  refine (HC _ p' hB1 hR).mono ?_
  rintro r W5 ⟨rfl, hS5, hRC⟩
  go_wp2_with fail
  refine hK.out _ _ hS5 (fun hHeld2 => ?_)
  clear hK K
  (try simp only [Act.put, List.getElem_toArray, List.getElem_cons_zero, List.getElem_cons_succ, List.setIfInBounds_toArray, List.set_cons_zero, List.set_cons_succ])
  refine wpAnyH_done (by kernel_rfl) ?_ _
  exact h _ _ _ _ _ _ _ _ hS5.1 hRC
end Go.Proofs.Ytbbbmmemfndnlaa
/- Names from outside, by the specification: the region that goes into a tree below. -/
namespace Go.Proofs.Ytbbbmmemfndnlaa
open Go.RowKit
attribute [local go_sem] cell_alloc_is frozen_alloc_is
set_option maxRecDepth 100000 in
set_option maxHeartbeats 2000000 in
theorem lf6 {Q : Exit → Act → World → Prop} {t0 t4 t5 t6 t8 t9 t10 t11 t12 t13 t14 t15 t16 t17 t18 t19 t20 t21 t22 t23 t24 t25 t26 t27 t28 t29 t30 t31 t32 t33 t34 t35 t36 t37 t38 t39 t40 t41 t42 t43 t44 t45 : Value} {W : World} {nb b o n c j no co cb n' c' : Nat} {k m e k' m' e' : Int} {t t' : ByteArray} {a' ab ao : Option Addr} {bs bd bc : List ByteArray} {R : Value → World → Prop}
    (hn : Five W nb (.int .i64 k) (.string t) (.int .i64 m) (.int .i64 e) (.slice (some ⟨b, o, none⟩) n c))
    (hj : j < n) (hk : W.cell? ⟨b, o + j * 5, none⟩ = some (.int .i64 k') ∧ W.cell? ⟨b, o + j * 5 + 1, none⟩ = some (.string t') ∧ W.cell? ⟨b, o + j * 5 + 2, none⟩ = some (.int .i64 m') ∧ W.cell? ⟨b, o + j * 5 + 3, none⟩ = some (.int .i64 e') ∧ W.cell? ⟨b, o + j * 5 + 4, none⟩ = some (.slice a' n' c'))
    (hb : SIn W bs ab) (hbl : bs.length ≤ 1000000) (hdl : bd.length ≤ 1000000) (hbc : Hid (bs ++ bd = bc))
    (HB : ∀ w', Below W.heap.size W w' → Calls Try.prog 53 #[nodeV k t m e (some ⟨b, o, none⟩) n c, .int .i64 (j : Nat)] w' fun r w2 => (∃ a2 c2, r = .returned (.slice a2 bd.length c2) ∧ SIn w2 bd a2 ∧ (bd.length ≤ c2 ∧ c2 ≤ maxLen)) ∧ Below w'.heap.size w' w2)
    (HC : ∀ w' a2 c2, Below W.heap.size W w' → SIn w' bc a2 → bc.length ≤ c2 ∧ c2 ≤ maxLen → Calls Try.prog 25 #[nodeV k' t' m' e' a' n' c', .slice a2 bc.length c2, .slice ao no co] w' fun r w2 => ∃ v, r = .returned v ∧ R v w2 ∧ Below w'.heap.size w' w2)
    (hp : ∀ p d v a w, Q (.panic p) (Act.put a d v) w → Q (.panic p) a w) (h : ∀ W1 v2 v31 v32 v33 v34 v35 v36 v37 v38 v39 v40 v41 v42 v43, Below W.heap.size W W1 → R v2 W1 → Q .normal { tmps := (t0 :: .slice ab bs.length cb :: v2 :: .pointer (some ⟨nb, 0, none⟩) :: t4 :: t5 :: t6 :: .int .i64 (j : Nat) :: t8 :: t9 :: t10 :: t11 :: t12 :: t13 :: t14 :: t15 :: t16 :: t17 :: t18 :: t19 :: t20 :: t21 :: t22 :: t23 :: t24 :: t25 :: t26 :: t27 :: t28 :: t29 :: t30 :: v31 :: v32 :: v33 :: v34 :: v35 :: v36 :: v37 :: v38 :: v39 :: v40 :: v41 :: v42 :: v43 :: v2 :: t45 :: []).toArray, defers := [] } W1) :
    Code.wp Try.prog (Code.region 6 #[{ dst := some 31, op := Op.fieldAddr 33 (Operand.tmp 3) 3, type := 0, pos := "l6_scope.go:45", after := #[], guard := none }, { dst := some 32, op := Op.load 31 (Operand.tmp 31), type := 31, pos := "l6_scope.go:45", after := #[{ on := 0, ground := Ground.data }], guard := none }, { dst := some 33, op := Op.move (Operand.tmp 7), type := 3, pos := "l6_scope.go:45", after := #[], guard := none }, { dst := some 34, op := Op.indexAddr 31 (Operand.tmp 32) (Operand.tmp 33), type := 0, pos := "l6_scope.go:45", after := #[{ on := 1, ground := Ground.data }, { on := 2, ground := Ground.data }], guard := none }, { dst := some 35, op := Op.load 33 (Operand.tmp 34), type := 33, pos := "l6_scope.go:45", after := #[{ on := 3, ground := Ground.data }], guard := none }, { dst := some 36, op := Op.buildSlice 28 0 #[], type := 28, pos := "l6_scope.go:45", after := #[], guard := none }, { dst := some 37, op := Op.move (Operand.tmp 1), type := 28, pos := "l6_scope.go:45", after := #[], guard := none }, { dst := some 38, op := Op.call { callee := Callee.builtin Builtin.append, args := #[Operand.tmp 36, Operand.tmp 37], argTypes := #[28, 28] }, type := 28, pos := "l6_scope.go:45", after := #[{ on := 5, ground := Ground.data }, { on := 6, ground := Ground.data }], guard := none }, { dst := some 39, op := Op.load 33 (Operand.tmp 3), type := 33, pos := "l6_scope.go:45", after := #[], guard := none }, { dst := some 40, op := Op.move (Operand.tmp 7), type := 3, pos := "l6_scope.go:45", after := #[], guard := none }, { dst := some 41, op := Op.call { callee := Callee.value (Operand.func 53), args := #[Operand.tmp 39, Operand.tmp 40], argTypes := #[33, 3] }, type := 28, pos := "l6_scope.go:45", after := #[{ on := 8, ground := Ground.data }, { on := 9, ground := Ground.data }, { on := 7, ground := Ground.chain }], guard := none }, { dst := some 42, op := Op.call { callee := Callee.builtin Builtin.append, args := #[Operand.tmp 38, Operand.tmp 41], argTypes := #[28, 28] }, type := 28, pos := "l6_scope.go:45", after := #[{ on := 7, ground := Ground.data }, { on := 10, ground := Ground.data }, { on := 10, ground := Ground.chain }], guard := none }, { dst := some 43, op := Op.move (Operand.tmp 2), type := 28, pos := "l6_scope.go:45", after := #[], guard := none }, { dst := some 44, op := Op.call { callee := Callee.value (Operand.func 25), args := #[Operand.tmp 35, Operand.tmp 42, Operand.tmp 43], argTypes := #[33, 28, 28] }, type := 28, pos := "l6_scope.go:45", after := #[{ on := 4, ground := Ground.data }, { on := 11, ground := Ground.data }, { on := 12, ground := Ground.data }, { on := 11, ground := Ground.chain }], guard := none }, { dst := some 2, op := Op.assign (Operand.tmp 44), type := 28, pos := "l6_scope.go:45", after := #[{ on := 13, ground := Ground.data }, { on := 13, ground := Ground.chain }, { on := 0, ground := Ground.phase }, { on := 1, ground := Ground.phase }, { on := 2, ground := Ground.phase }, { on := 3, ground := Ground.phase }, { on := 4, ground := Ground.phase }, { on := 5, ground := Ground.phase }, { on := 6, ground := Ground.phase }, { on := 7, ground := Ground.phase }, { on := 8, ground := Ground.phase }, { on := 9, ground := Ground.phase }, { on := 10, ground := Ground.phase }, { on := 11, ground := Ground.phase }, { on := 12, ground := Ground.phase }, { on := 13, ground := Ground.phase }], guard := none }] true) Q { tmps := (t0 :: .slice ab bs.length cb :: .slice ao no co :: .pointer (some ⟨nb, 0, none⟩) :: t4 :: t5 :: t6 :: .int .i64 (j : Nat) :: t8 :: t9 :: t10 :: t11 :: t12 :: t13 :: t14 :: t15 :: t16 :: t17 :: t18 :: t19 :: t20 :: t21 :: t22 :: t23 :: t24 :: t25 :: t26 :: t27 :: t28 :: t29 :: t30 :: t31 :: t32 :: t33 :: t34 :: t35 :: t36 :: t37 :: t38 :: t39 :: t40 :: t41 :: t42 :: t43 :: t44 :: t45 :: []).toArray, defers := [] } W := by
  obtain ⟨i0, hi, hz0, hz1, hz2⟩ := info_parts textInfo
  obtain ⟨hL, hss⟩ := hb.lies
  have hbox : nb < W.heap.size := hn.lt
  have hkl : b < W.heap.size := World.block_lt_of_cell? _ _ hk.1
  have HN : Hid (∀ w', Below W.heap.size W w' → Five w' nb (.int .i64 k) (.string t) (.int .i64 m) (.int .i64 e) (.slice (some ⟨b, o, none⟩) n c)) := fun w' h => hn.below h hbox
  have HK : Hid (∀ w', Below W.heap.size W w' → (w'.cell? ⟨b, o + j * 5, none⟩ = some (.int .i64 k') ∧ w'.cell? ⟨b, o + j * 5 + 1, none⟩ = some (.string t') ∧ w'.cell? ⟨b, o + j * 5 + 2, none⟩ = some (.int .i64 m') ∧ w'.cell? ⟨b, o + j * 5 + 3, none⟩ = some (.int .i64 e') ∧ w'.cell? ⟨b, o + j * 5 + 4, none⟩ = some (.slice a' n' c'))) := fun w' h => ⟨(h.cell (p := ⟨b, o + j * 5, none⟩) hkl).trans hk.1, (h.cell (p := ⟨b, o + j * 5 + 1, none⟩) hkl).trans hk.2.1, (h.cell (p := ⟨b, o + j * 5 + 2, none⟩) hkl).trans hk.2.2.1, (h.cell (p := ⟨b, o + j * 5 + 3, none⟩) hkl).trans hk.2.2.2.1, (h.cell (p := ⟨b, o + j * 5 + 4, none⟩) hkl).trans hk.2.2.2.2⟩
  have HS1 : Hid (∀ w', Below W.heap.size W w' → Src w' ab bs.length (texts bs)) := fun w' h => Lies.src (sz := 1) (hL.grow h) (by unfold texts; simp) (by omega)
  have H1 : Hid (∀ (l : List ByteArray), ∀ u ∈ texts l, u.oneCell' = true) := fun l u hu => by obtain ⟨s, _, rfl⟩ := List.mem_map.1 hu; rfl
  have HL : Hid (∀ (l : List ByteArray), (texts l).length = l.length * 1) := fun l => by unfold texts; simp
  have HSS : Hid (∀ s ∈ bs, s.size ≤ maxLen) := hss
  have hj' : (j : Int) < (n : Int) := by omega
  clear hn hk hb hL hss
  have hB0 : Below W.heap.size W W.drew := (Below.refl _ W).drew
  refine wp_region_held_drew (S := fun w' => Below W.heap.size W w') (by kernel_rfl) hB0 (fun hHeld => ?_)
  generalize W.drew = Wd at *
  have hSw : Below W.heap.size W Wd := hB0
  refine wpAnyH_take (i := 0) (v := .pointer (some ⟨nb, 4, none⟩)) rfl (by kernel_rfl) (by kernel_rfl) (by kernel_rfl) (fun _ _ _ h => hp _ _ _ _ _ h) (Or.inl ⟨by rfl, ?_⟩) (by assumption) ?_
  · intro w hSw
    (try dsimp only at hSw)
    go_simp
  (try simp only [Act.put, List.getElem_toArray, List.getElem_cons_zero, List.setIfInBounds_toArray, List.set_cons_zero, List.set_cons_succ])
  refine wpAnyH_take (i := 1) (v := .slice (some ⟨b, o, none⟩) n c) rfl (by kernel_rfl) (by kernel_rfl) (by kernel_rfl) (fun _ _ _ h => hp _ _ _ _ _ h) (Or.inl ⟨by rfl, ?_⟩) (by assumption) ?_
  · intro w hSw
    (try dsimp only at hSw)
    (have hN := HN.out _ hSw; have hK := HK.out _ hSw; obtain ⟨⟨x0, x1, x2, x3, x4⟩, _⟩ := hN; obtain ⟨y0, y1, y2, y3, y4⟩ := hK; go_simp)
  (try simp only [Act.put, List.getElem_toArray, List.getElem_cons_zero, List.getElem_cons_succ, List.setIfInBounds_toArray, List.set_cons_zero, List.set_cons_succ])
  refine wpAnyH_take (i := 2) (v := .int .i64 (j : Nat)) rfl (by kernel_rfl) (by kernel_rfl) (by kernel_rfl) (fun _ _ _ h => hp _ _ _ _ _ h) (Or.inl ⟨by rfl, ?_⟩) (by assumption) ?_
  · intro w hSw
    (try dsimp only at hSw)
    go_simp
  (try simp only [Act.put, List.getElem_toArray, List.getElem_cons_zero, List.getElem_cons_succ, List.setIfInBounds_toArray, List.set_cons_zero, List.set_cons_succ])
  refine wpAnyH_take (i := 3) (v := .pointer (some ⟨b, o + j * 5, none⟩)) rfl (by kernel_rfl) (by kernel_rfl) (by kernel_rfl) (fun _ _ _ h => hp _ _ _ _ _ h) (Or.inl ⟨by rfl, ?_⟩) (by assumption) ?_
  · intro w hSw
    (try dsimp only at hSw)
    (go_simp <;> omega)
  (try simp only [Act.put, List.getElem_toArray, List.getElem_cons_zero, List.getElem_cons_succ, List.setIfInBounds_toArray, List.set_cons_zero, List.set_cons_succ])
  refine wpAnyH_take (i := 4) (v := nodeV k' t' m' e' a' n' c') rfl (by kernel_rfl) (by kernel_rfl) (by kernel_rfl) (fun _ _ _ h => hp _ _ _ _ _ h) (Or.inl ⟨by rfl, ?_⟩) (by assumption) ?_
  · intro w hSw
    (try dsimp only at hSw)
    (have hN := HN.out _ hSw; have hK := HK.out _ hSw; obtain ⟨⟨x0, x1, x2, x3, x4⟩, _⟩ := hN; obtain ⟨y0, y1, y2, y3, y4⟩ := hK; go_simp)
  (try simp only [Act.put, List.getElem_toArray, List.getElem_cons_zero, List.getElem_cons_succ, List.setIfInBounds_toArray, List.set_cons_zero, List.set_cons_succ])
  refine wpAnyH_take (i := 6) (v := .slice ab bs.length cb) rfl (by kernel_rfl) (by kernel_rfl) (by kernel_rfl) (fun _ _ _ h => hp _ _ _ _ _ h) (Or.inl ⟨by rfl, ?_⟩) (by assumption) ?_
  · intro w hSw
    (try dsimp only at hSw)
    go_simp
  (try simp only [Act.put, List.getElem_toArray, List.getElem_cons_zero, List.getElem_cons_succ, List.setIfInBounds_toArray, List.set_cons_zero, List.set_cons_succ])
  refine wpAnyH_take (i := 8) (v := nodeV k t m e (some ⟨b, o, none⟩) n c) rfl (by kernel_rfl) (by kernel_rfl) (by kernel_rfl) (fun _ _ _ h => hp _ _ _ _ _ h) (Or.inl ⟨by rfl, ?_⟩) (by assumption) ?_
  · intro w hSw
    (try dsimp only at hSw)
    (have hN := HN.out _ hSw; have hK := HK.out _ hSw; obtain ⟨⟨x0, x1, x2, x3, x4⟩, _⟩ := hN; obtain ⟨y0, y1, y2, y3, y4⟩ := hK; go_simp)
  (try simp only [Act.put, List.getElem_toArray, List.getElem_cons_zero, List.getElem_cons_succ, List.setIfInBounds_toArray, List.set_cons_zero, List.set_cons_succ])
  refine wpAnyH_take (i := 9) (v := .int .i64 (j : Nat)) rfl (by kernel_rfl) (by kernel_rfl) (by kernel_rfl) (fun _ _ _ h => hp _ _ _ _ _ h) (Or.inl ⟨by rfl, ?_⟩) (by assumption) ?_
  · intro w hSw
    (try dsimp only at hSw)
    go_simp
  (try simp only [Act.put, List.getElem_toArray, List.getElem_cons_zero, List.getElem_cons_succ, List.setIfInBounds_toArray, List.set_cons_zero, List.set_cons_succ])
  refine wpAnyH_take (i := 12) (v := .slice ao no co) rfl (by kernel_rfl) (by kernel_rfl) (by kernel_rfl) (fun _ _ _ h => hp _ _ _ _ _ h) (Or.inl ⟨by rfl, ?_⟩) (by assumption) ?_
  · intro w hSw
    (try dsimp only at hSw)
    go_simp
  (try simp only [Act.put, List.getElem_toArray, List.getElem_cons_zero, List.getElem_cons_succ, List.setIfInBounds_toArray, List.set_cons_zero, List.set_cons_succ])
  clear hSw hHeld
  refine wpAnyH_ready (rs := [5]) (by kernel_rfl) (by simp) ?_
  refine AllReadyH.cons rfl (fun K hK => ?_) AllReadyH.nil
  go_simp
  have hown := own_nothing Wd W.heap.size 1 9 hB0.size
  have hB1 := hB0.alloc hB0.size (.cells #[] 9)
  clear hB0
  have hB0 := hB1
  clear hB1
  refine hK.out _ _ hB0 (fun hHeld => ?_)
  clear hK K hHeld
  obtain ⟨vo, hvo⟩ : ∃ vo, vo = Value.slice (some ⟨Wd.heap.size, 0, none⟩) 0 0 := ⟨_, rfl⟩
  rw [← hvo] at hown ⊢
  clear hvo
  generalize Wd.alloc (.cells #[] 9) = W1 at *
  (try simp only [Act.put, List.getElem_toArray, List.getElem_cons_zero, List.getElem_cons_succ, List.setIfInBounds_toArray, List.set_cons_zero, List.set_cons_succ])
  refine wpAnyH_ready (rs := [7]) (by kernel_rfl) (by simp) ?_
  refine AllReadyH.cons rfl (fun K hK => ?_) AllReadyH.nil
  refine wp_append_lie W1 _ _ 28 rfl W.heap.size 9 i0 _ 1 16 Try.underlying28 hi hz0 hz1 hz2 rfl (by decide) vo 0 [] rfl hown ab bs.length cb (texts bs) rfl (HL.out _) (HS1.out _ hB0) (H1.out _) (by unfold maxLen; omega) (by omega) hB0.size ?_
  intro vo2 W2 hown2 hgr hbl
  have hB1 := below_grown hB0 hown hgr hB0.size
  clear hB0 hown hgr hbl
  have hB0 := hB1
  clear hB1
  rw [List.nil_append, Nat.zero_add] at hown2
  refine hK.out _ _ hB0 (fun hHeld => ?_)
  clear hK K hHeld
  (try simp only [Act.put, List.getElem_toArray, List.getElem_cons_zero, List.getElem_cons_succ, List.setIfInBounds_toArray, List.set_cons_zero, List.set_cons_succ])
  refine wpAnyH_ready (rs := [10]) (by kernel_rfl) (by simp) ?_
  refine AllReadyH.cons rfl (fun K hK => ?_) AllReadyH.nil
  go_simp
  refine (HB _ hB0).mono ?_
  rintro r W3 ⟨⟨a2, c2, rfl, hS2, hc2⟩, hb⟩
  have hB1 := hB0.trans (hb.mono hB0.size)
  have hown3 := own_keep hown2 hb
  clear hown2
  go_wp2_with fail
  clear hB0 hb
  have hB0 := hB1
  clear hB1
  refine hK.out _ _ hB0 (fun hHeld => ?_)
  clear hK K hHeld
  (try simp only [Act.put, List.getElem_toArray, List.getElem_cons_zero, List.getElem_cons_succ, List.setIfInBounds_toArray, List.set_cons_zero, List.set_cons_succ])
  obtain ⟨hL2, hss2⟩ := hS2.lies
  have hsr2 := Lies.src (sz := 1) hL2 (HL.out _) (by omega)
  refine wpAnyH_ready (rs := [11]) (by kernel_rfl) (by simp) ?_
  refine AllReadyH.cons rfl (fun K hK => ?_) AllReadyH.nil
  refine wp_append_lie W3 _ _ 28 rfl W.heap.size 9 i0 _ 1 16 Try.underlying28 hi hz0 hz1 hz2 rfl (by decide) vo2 bs.length (texts bs) rfl hown3 a2 bd.length c2 (texts bd) rfl (HL.out _) hsr2 (H1.out _) (by unfold maxLen; omega) (by omega) hB0.size ?_
  intro vo3 W4 hown4 hgr hbl
  have hB1 := below_grown hB0 hown3 hgr hB0.size
  have hF : ∃ a3 c3, vo3 = .slice a3 bc.length c3 ∧ SIn W4 bc a3 ∧ (bc.length ≤ c3 ∧ c3 ≤ maxLen) := by
    obtain ⟨a3, c3, e1, e2, e3, -⟩ := own_lies hown4
    rw [← List.length_append, hbc.out] at e1 e3
    refine ⟨a3, c3, e1, Lies.sin (by rw [← hbc.out]; unfold texts at e2 ⊢; rw [List.map_append]; exact e2) (fun s hs => ?_), e3⟩
    rw [← hbc.out] at hs
    rcases List.mem_append.1 hs with hs | hs
    · exact HSS.out s hs
    · exact hss2 s hs
  clear hB0 hown3 hown4 hgr hbl hL2 hsr2 hS2
  have hB0 := hB1
  clear hB1
  obtain ⟨a3, c3, rfl, hS3, hc3⟩ := hF
  refine hK.out _ _ hB0 (fun hHeld => ?_)
  clear hK K hHeld
  (try simp only [Act.put, List.getElem_toArray, List.getElem_cons_zero, List.getElem_cons_succ, List.setIfInBounds_toArray, List.set_cons_zero, List.set_cons_succ])
  refine wpAnyH_ready (rs := [13]) (by kernel_rfl) (by simp) ?_
  refine AllReadyH.cons rfl (fun K hK => ?_) AllReadyH.nil
  go_simp
  refine (HC _ a3 c3 hB0 hS3 hc3).mono ?_
  rintro r W5 ⟨v, rfl, hR, hb⟩
  have hB1 := hB0.trans (hb.mono hB0.size)
  go_wp2_with fail
  clear hB0 hb
  have hB0 := hB1
  clear hB1
  refine hK.out _ _ hB0 (fun hHeld => ?_)
  clear hK K hHeld
  (try simp only [Act.put, List.getElem_toArray, List.getElem_cons_zero, List.getElem_cons_succ, List.setIfInBounds_toArray, List.set_cons_zero, List.set_cons_succ])
  have hSw : Below W.heap.size W W5 := hB0
  refine wpAnyH_take (i := 14) (v := v) rfl (by kernel_rfl) (by kernel_rfl) (by kernel_rfl) (fun _ _ _ h => hp _ _ _ _ _ h) (Or.inl ⟨by rfl, ?_⟩) (by assumption) ?_
  · intro w hSw
    (try dsimp only at hSw)
    go_simp
  (try simp only [Act.put, List.getElem_toArray, List.getElem_cons_zero, List.getElem_cons_succ, List.setIfInBounds_toArray, List.set_cons_zero, List.set_cons_succ])
  refine wpAnyH_done (by kernel_rfl) ?_ _
  exact h _ _ _ _ _ _ _ _ _ _ _ _ _ _ _ hB0 hR
end Go.Proofs.Ytbbbmmemfndnlaa
/- Names from outside, by the specification: l6Frees, Frees. -/
namespace Go.Proofs.Ytbbbmmemfndnlaa
open Go.RowKit
attribute [local go_sem] cell_alloc_is frozen_alloc_is
set_option maxRecDepth 100000 in
set_option maxHeartbeats 2000000 in
theorem l6Frees_all (N : Nat) : ∀ (k : Int) (t : ByteArray) (m e : Int) (a : Option Addr) (c : Nat) (F : Fo) (bound : List ByteArray) (ab : Option Addr) (cb : Nat) (ns : List ByteArray) (ao : Option Addr) (co : Nat) (w : World), F.size < N → F.In w a → F.len ≤ c → c ≤ maxLen → t.size ≤ maxLen → lamOk k F → F.Lam → SIn w bound ab → bound.length ≤ cb ∧ cb ≤ maxLen → bound.length + F.size ≤ 500000 → SIn w ns ao → ns.length ≤ co ∧ co ≤ maxLen → ns.length + F.size + 1 ≤ 500000 →
    Calls Try.prog 25 #[nodeV k t m e a F.len c, .slice ab bound.length cb, .slice ao ns.length co] w fun r w' => (∃ a' c', r = .returned (.slice a' (frs1 k t F bound ns).length c') ∧ SIn w' (frs1 k t F bound ns) a' ∧ ((frs1 k t F bound ns).length ≤ c' ∧ c' ≤ maxLen)) ∧ Below w.heap.size w w' := by
  induction N with
  | zero => intro k t m e a c F bound ab cb ns ao co w hF; omega
  | succ N ih =>
    intro k t m e a c F bound ab cb ns ao co w hF hin hl hc ht hlam hLam hSb hcb hbz hS hco hsz
    have hll := F.len_le
    have hc2 : c ≤ 2 ^ 63 - 1 := hc
    have hb0 : Below w.heap.size w (w.alloc (.cells #[.int .i64 k, .string t, .int .i64 m, .int .i64 e, .slice a F.len c] 33)) := (Below.refl _ _).alloc (Nat.le_refl _) _
    have f0 := Five.new w (.int .i64 k) (.string t) (.int .i64 m) (.int .i64 e) (.slice a F.len c) 33
    have hHas := l2Has_sin bound ab cb t _ (hSb.grow hb0) (by omega)
    have hP := l6Put_any ns ao co t _ (hS.grow hb0) hco (by omega) ht
    have hFr := fun W hW => l6From_any k t m e a c F W hlam.1 hW
    by_cases hc6 : k = 6 ∧ hasT t bound = false
    · have hI : Hid (frs1 k t F bound ns = put1 t ns) := if_pos hc6
      obtain ⟨rfl, hh⟩ := hc6
      rw [hh] at hHas
      clear hin ih hlam hLam hFr
      go_enter Try.func25, Try.ntmps25
      go_wp2_with fail
      refine hHas.mono ?_
      rintro r w1 ⟨rfl, rfl⟩
      go_wp2_with fail
      refine hP.mono ?_
      rintro r w1 ⟨⟨a', c', rfl, h1, h2⟩, hb1⟩
      have HB := hb0.trans (hb1.mono hb0.size)
      clear hP hb0 hb1 hHas f0
      go_wp2_with fail
      go_ret
      rw [hI.out]
      exact ⟨⟨a', c', rfl, h1, h2⟩, HB⟩
    · have hI : Hid (frs1 k t F bound ns = F.frs k t F bound 0 ns) := if_neg hc6
      have hcs : ((k == 6) = true ∧ hasT t bound = true) ∨ (k == 6) = false := by
        by_cases hk : k = 6
        · left
          refine ⟨by simp [hk], ?_⟩
          cases hq : hasT t bound
          · exact absurd ⟨hk, hq⟩ hc6
          · rfl
        · exact .inr (by simp [hk])
      clear hc6 hP
      have HLm : Hid (lamOk k F ∧ F.Lam) := ⟨hlam, hLam⟩
      have HSb : Hid (∀ w', Below w.heap.size w w' → SIn w' bound ab) := fun w' h => hSb.grow h
      have HIn : Hid (∀ w', Below w.heap.size w w' → F.In w' a) := fun w' h => hin.grow h
      have HFr := hFr (w.alloc (.cells #[.int .i64 k, .string t, .int .i64 m, .int .i64 e, .slice a F.len c] 33)) (Nat.le_trans hl hc)
      have hfp : fromP k F ≤ F.len := by unfold fromP; split <;> omega
      have HD0 : Hid ((F.drop (fromP k F)).frs k t F bound (fromP k F) ns = F.frs k t F bound 0 ns) := by have := frs_drop k t F bound ns F (fromP k F) 0 (by omega); rw [Nat.zero_add] at this; exact this
      have HS0 : Hid (fromP k F + (F.drop (fromP k F)).len = F.len ∧ fromP k F + (F.drop (fromP k F)).size ≤ F.size) := ⟨drop_len F hfp, drop_size F hfp⟩
      clear hFr hSb hlam hLam
      obtain ⟨j0, hj0⟩ : ∃ j0, fromP k F = j0 := ⟨_, rfl⟩
      rw [hj0] at HFr HD0 HS0 hfp
      have HJ0 : Hid (fromP k F = j0) := hj0
      clear hj0
      rcases hcs with ⟨hk, hh⟩ | hk
      all_goals first | rw [hh] at hHas | clear hHas
      all_goals go_enter Try.func25, Try.ntmps25
      all_goals go_wp2_with fail
      all_goals first
        | (refine hHas.mono ?_
           rintro r w1 ⟨rfl, rfl⟩
           clear hHas
           go_wp2_with fail)
        | skip
      all_goals
        refine HFr.mono ?_
        rintro r w1 ⟨rfl, hb1⟩
        have hB1 := hb0.trans (hb1.mono hb0.size)
        have f1 := f0.below hb1 f0.lt
        clear hb0 hb1 HFr f0
        go_wp2_with fail
        go_loopw [2, 7] (fun o i wr => ∃ (j : Nat) (G : Fo) (nj : List ByteArray) (aj : Option Addr) (cj : Nat), i = .int .i64 j ∧ o = .slice aj nj.length cj ∧ (F.drop j = G ∧ j0 ≤ j) ∧ (j + G.len = F.len ∧ j + G.size ≤ F.size) ∧ (nj.length + G.size ≤ ns.length + F.size ∧ G.frs k t F bound j nj = F.frs k t F bound 0 ns) ∧ (SIn wr nj aj ∧ nj.length ≤ cj ∧ cj ≤ maxLen) ∧ (Five wr w.heap.size (.int .i64 k) (.string t) (.int .i64 m) (.int .i64 e) (.slice a F.len c)) ∧ Below w.heap.size w wr) (fun _ i _ => F.len - (intOf i).toNat)
        case atStart =>
          refine ⟨j0, F.drop j0, ns, ao, co, rfl, rfl, ⟨rfl, Nat.le_refl _⟩, ⟨HS0.out.1, HS0.out.2⟩, ⟨by have := HS0.out.2; omega, HD0.out⟩, ⟨hS.grow hB1, hco⟩, f1, hB1⟩
        case round =>
          obtain ⟨j, G, nj, aj, cj, rfl, rfl, ⟨hd, hjj0⟩, ⟨hj1, hj2⟩, ⟨hq1, hq3⟩, ⟨hSj, hcj⟩, hbox, hb⟩ := hrel
          have HQ : Hid (G.frs k t F bound j nj = F.frs k t F bound 0 ns) := hq3
          have HG : Hid (F.drop j = G) := hd
          have hcj2 : cj ≤ 2 ^ 63 - 1 := hcj.2
          have hcj1 := hcj.1
          clear hq3 hd
          cases G with
          | nil =>
            have hj' : j = F.len := by simpa [Fo.len] using hj1
            have hlt : ¬ (j : Int) < (F.len : Int) := by omega
            have HF : Hid (SIn wr (frs1 k t F bound ns) aj ∧ ((frs1 k t F bound ns).length ≤ cj ∧ cj ≤ maxLen) ∧ nj.length = (frs1 k t F bound ns).length) := by
              have e : nj = F.frs k t F bound 0 ns := HQ.out
              unfold Hid
              rw [hI.out, ← e]
              exact ⟨hSj, hcj, rfl⟩
            obtain ⟨⟨x0, x1, x2, x3, x4⟩, _⟩ := id hbox
            clear hj1 hj2 hj' hSj hcj hS hin ih hq1 f1 hB1
            go_wp2_with fail
            go_ret
            obtain ⟨f1, f2, f3⟩ := HF.out
            exact ⟨⟨aj, cj, (by rw [f3]; rfl), f1, f2⟩, hb⟩
          | cons k' t' m' e' a' c' kids next =>
            have hlt : (j : Int) < (F.len : Int) := by have : j + (next.len + 1) = F.len := hj1; omega
            have hjl : j < F.len := by omega
            have hnl := next.len_le
            have hsz2 : nj.length + (kids.size + 1 + next.size) ≤ ns.length + F.size := hq1
            have hsz3 : j + (kids.size + 1 + next.size) ≤ F.size := hj2
            have hln : j + (next.len + 1) = F.len := hj1
            obtain ⟨b, o, rfl, hfr⟩ : ∃ b o, a = some ⟨b, o, none⟩ ∧ F.From w b o := by
              rcases hin with h | ⟨b, o, e1, e2⟩
              · rw [h] at hjl; exact absurd hjl (Nat.not_lt_zero _)
              · exact ⟨b, o, e1, e2⟩
            have hfr2 := drop_from F (j := j) (Fo.from_grow hb F b o hfr)
            rw [HG.out] at hfr2
            obtain ⟨hK5, hk2, hc1, hc3, ht', hn⟩ := hfr2
            have hLm2 := drop_lam F (j := j) HLm.out.2
            rw [HG.out] at hLm2
            have HCx := fun (w' : World) (a2 : Option Addr) (c2 : Nat) (h1 : Below wr.heap.size wr w') h2 h3 h4 => ih k' t' m' e' a' c' kids (bound ++ bnd k t F j) a2 c2 nj aj cj w' (by omega) (by
                rcases hk2 with h | ⟨b', o', e1, e2⟩
                · exact .inl h
                · exact .inr ⟨b', o', e1, Fo.from_grow h1 kids b' o' e2⟩) hc1 hc3 ht' hLm2.1 hLm2.2.1 h2 h3 h4 (hSj.grow h1) hcj (by omega)
            have hbl := bnd_len k t F j hjl
            have hbz2 : (bound ++ bnd k t F j).length + kids.size ≤ 500000 := by rw [List.length_append]; omega
            have HBx := fun (w' : World) (h1 : Below wr.heap.size wr w') => l6Bound_any k t m e (some ⟨b, o, none⟩) c j F w' (.inr ⟨b, o, rfl, Fo.from_grow (hb.trans (h1.mono hb.size)) F b o hfr⟩) hl hc ht (txts_in hfr) (by omega) (by omega)
            have HQ2 : Hid (next.frs k t F bound (j + 1) (frs1 k' t' kids (bound ++ bnd k t F j) nj) = F.frs k t F bound 0 ns) := by
              have e := HQ.out
              unfold Hid
              have e2 : (Fo.cons k' t' m' e' a' c' kids next).frs k t F bound j nj = next.frs k t F bound (j + 1) (if j < fromP k F then nj else frs1 k' t' kids (bound ++ bnd k t F j) nj) := rfl
              rw [e2] at e
              rw [← e, if_neg (by rw [HJ0.out]; omega)]
            have HL : Hid ((frs1 k' t' kids (bound ++ bnd k t F j) nj).length ≤ nj.length + kids.size + 1) := by
              unfold Hid frs1
              have h1 := frs_len kids k' t' kids (bound ++ bnd k t F j) 0 nj
              have h2 := put1_len t' nj
              split <;> omega
            have HN : Hid (F.drop (j + 1) = next) := Fo.drop_next HG.out
            have hSbj := HSb.out wr hb
            have hbl5 : bound.length ≤ 1000000 := by omega
            have hdl5 : (bnd k t F j).length ≤ 1000000 := by omega
            obtain ⟨⟨x0, x1, x2, x3, x4⟩, _⟩ := id hbox
            have HR : Hid (nj.length + kids.size + 1 + next.size ≤ ns.length + F.size ∧ j + 1 + next.len = F.len ∧ j + 1 + next.size ≤ F.size) := ⟨by omega, by omega, by omega⟩
            have HJJ : Hid (j0 ≤ j) := hjj0
            clear hj1 hj2 hin hq1 hS ih HQ hSj hcj hk2 hn hsz2 hsz3 hln hnl f1 hB1
            go_wp2_with fail
            refine lf6 (k := k) (t := t) (m := m) (e := e) (a' := a') (n' := kids.len) (c' := c') (k' := k') (t' := t') (m' := m') (e' := e') (bd := bnd k t F j) (bc := bound ++ bnd k t F j) (R := fun v w2 => ∃ a2 c2, v = .slice a2 (frs1 k' t' kids (bound ++ bnd k t F j) nj).length c2 ∧ SIn w2 (frs1 k' t' kids (bound ++ bnd k t F j) nj) a2 ∧ ((frs1 k' t' kids (bound ++ bnd k t F j) nj).length ≤ c2 ∧ c2 ≤ maxLen))
              hbox hjl hK5 hSbj hbl5 hdl5 rfl HBx (fun w' a2 c2 h1 h2 h3 => (HCx w' a2 c2 h1 h2 h3 hbz2).mono (by rintro r w2 ⟨⟨a3, c3, rfl, h4, h5⟩, h6⟩; exact ⟨_, rfl, ⟨a3, c3, rfl, h4, h5⟩, h6⟩)) (fun _ d _ _ _ h => by cases d <;> exact h) ?_
            intro W1 v2 v31 v32 v33 v34 v35 v36 v37 v38 v39 v40 v41 v42 v43 hb1 hv2
            obtain ⟨a2, c2, rfl, hS2, hc2'⟩ := hv2
            have hb2 := hb.trans (hb1.mono hb.size)
            have hbx := hbox.below hb1 hbox.lt
            clear hb1 hb hbox hK5 hSbj HBx HCx hbz2 hbl x0 x1 x2 x3 x4
            go_wp2_with fail
            go_round
            case rel =>
              refine ⟨j + 1, next, frs1 k' t' kids (bound ++ bnd k t F j) nj, a2, c2, by go_num, rfl, ⟨HN.out, by have := HJJ.out; omega⟩, ⟨HR.out.2.1, HR.out.2.2⟩, ⟨by have := HL.out; have := HR.out.1; omega, HQ2.out⟩, ⟨hS2, hc2'⟩, hbx, hb2⟩
            case measure => simp [intOf]; omega
/-- the names from outside of a tree -/
noncomputable def freesOf (k : Int) (t : ByteArray) (m e : Int) (F : Fo) : List ByteArray := by
  classical
  exact if ¬ k = 23 ∧ TreeGood k t m e F then frs1 k t F [] [] else []
theorem freesOf_yes {k : Int} {t : ByteArray} {m e : Int} {F : Fo} (h : ¬ k = 23 ∧ TreeGood k t m e F) : freesOf k t m e F = frs1 k t F [] [] := by
  unfold freesOf; exact if_pos h
theorem freesOf_no {k : Int} {t : ByteArray} {m e : Int} {F : Fo} (h : ¬ (¬ k = 23 ∧ TreeGood k t m e F)) : freesOf k t m e F = [] := by
  unfold freesOf; exact if_neg h
theorem sFrees_any (k : Int) (t : ByteArray) (m e : Int) (a : Option Addr) (c : Nat) (F : Fo) (w : World) (hF : F.size ≤ 1050000) (hin : F.In w a) (hl : F.len ≤ c) (hc : c ≤ maxLen) (ht : t.size ≤ maxLen) :
    Calls Try.prog 8 #[nodeV k t m e a F.len c] w fun r w' => (∃ a' c', r = .returned (.slice a' (freesOf k t m e F).length c') ∧ SIn w' (freesOf k t m e F) a' ∧ ((freesOf k t m e F).length ≤ c' ∧ c' ≤ maxLen)) ∧ Below w.heap.size w w' := by
  have hb0 : Below w.heap.size w (w.alloc (.cells #[.int .i64 k, .string t, .int .i64 m, .int .i64 e, .slice a F.len c] 33)) := (Below.refl _ _).alloc (Nat.le_refl _) _
  have A0 : Row (w.alloc (.cells #[.int .i64 k, .string t, .int .i64 m, .int .i64 e, .slice a F.len c] 33)) w.heap.size [.int .i64 k, .string t, .int .i64 m, .int .i64 e, .slice a F.len c] := Row.new w _ _
  have HI := hin.grow hb0
  go_enter Try.func8, Try.ntmps8
  go_wp2_with fail
  refine (sTreeOk_any k t m e a c F _ (by omega) HI hl hc ht).mono ?_
  rintro r w1 ⟨⟨q, rfl, hq⟩, hb1⟩
  have A1 := A0.below hb1 A0.lt
  have HI1 := HI.grow hb1
  have hB1 := hb0.trans (hb1.mono hb0.size)
  have HQ : Hid (q = true ↔ (¬ k = 23 ∧ TreeGood k t m e F)) := hq
  clear hq hb0 hb1 HI A0 hin
  generalize w.heap.size = vb at A1
  have y0 := (A1 0 _ rfl).1
  have y1 := (A1 1 _ rfl).1
  have y2 := (A1 2 _ rfl).1
  have y3 := (A1 3 _ rfl).1
  have y4 := (A1 4 _ rfl).1
  cases q
  · have HN : Hid (freesOf k t m e F = []) := freesOf_no fun h => by have := HQ.out.2 h; cases this
    clear HQ HI1 y0 y1 y2 y3 y4 A1
    go_wp2_with fail
    go_ret
    rw [HN.out]
    exact ⟨⟨_, 0, rfl, .inl rfl, Nat.le_refl _, Nat.zero_le _⟩, hB1.alloc hB1.size _⟩
  · have hgd := HQ.out.1 rfl
    have HN : Hid (freesOf k t m e F = frs1 k t F [] []) := freesOf_yes hgd
    obtain ⟨g1, g2, g3⟩ := good_lam hgd.2
    have hb2 : Below w1.heap.size w1 ((w1.alloc (.cells #[] 9)).alloc (.cells #[] 9)) := ((Below.refl _ _).alloc (Nat.le_refl _) _).alloc (by simp) _
    have HC := l6Frees_all (F.size + 1) k t m e a c F [] (some ⟨w1.heap.size, 0, none⟩) 0 [] (some ⟨w1.heap.size + 1, 0, none⟩) 0 _ (Nat.lt_succ_self _) (HI1.grow hb2) hl hc ht g1 g2 (.inl rfl) ⟨Nat.le_refl _, Nat.zero_le _⟩ (by show 0 + F.size ≤ 500000; omega) (.inl rfl) ⟨Nat.le_refl _, Nat.zero_le _⟩ (by show 0 + F.size + 1 ≤ 500000; omega)
    have hB2 := hB1.trans (hb2.mono hB1.size)
    clear HQ HI1 A1 hb2 hB1 hgd g1 g2 g3
    go_wp2_with fail
    refine HC.mono ?_
    rintro r w2 ⟨⟨a2, c2, rfl, h1, h2⟩, hb3⟩
    have HF : Hid (SIn w2 (frs1 k t F [] []) a2 ∧ ((frs1 k t F [] []).length ≤ c2 ∧ c2 ≤ maxLen)) := ⟨h1, h2⟩
    have hB3 := hB2.trans (hb3.mono hB2.size)
    clear HC h1 h2 hB2 hb3 y0 y1 y2 y3 y4
    go_wp2_with fail
    go_ret
    rw [HN.out]
    exact ⟨⟨a2, c2, rfl, HF.out⟩, hB3⟩
end Go.Proofs.Ytbbbmmemfndnlaa
/- A range over all trees in a tree: what a round keeps, but for lists of texts that were made in it. -/
namespace Go.Proofs.Ytbbbmmemfndnlaa
open Go.RowKit
/-- a tree that is told, with how deep it stands; what is below it lies in the world w; its texts are no longer than this -/
structure TIX (w : World) where
  d : Nat
  k : Int
  t : ByteArray
  m : Int
  e : Int
  a : Option Addr
  kids : Fo
  c : Nat
  hin : kids.In w a
  hl : kids.len ≤ c
  hc : c ≤ maxLen
  ht : t.size ≤ maxLen
  hw : t.size ≤ 1048576 ∧ kids.wt ≤ 1048576
def TIX.raw {w : World} (x : TIX w) : Nat × Int × ByteArray × Int × Int × Fo := (x.d, x.k, x.t, x.m, x.e, x.kids)
def TIX.enc {w : World} (x : TIX w) : Array Value := #[.int .i64 x.d, .agg #[.int .i64 x.k, .string x.t, .int .i64 x.m, .int .i64 x.e, .slice x.a x.kids.len x.c]]
/-- a block that is no list of texts -/
def notText : Obj → Bool
  | .cells _ t _ => t != 9
  | _ => true
/-- what a round keeps: the cells that lay ahead of the caller, and those that were made since the loop began, but for lists of texts -/
def KeptX (n0 n1 : Nat) (W W' : World) : Prop := W.heap.size ≤ W'.heap.size ∧ ∀ j o, W.heap[j]? = some o → o.isCells = true → (j < n0 ∨ (n1 ≤ j ∧ notText o = true)) → W'.heap[j]? = some o
theorem KeptX.refl (n0 n1 : Nat) (W : World) : KeptX n0 n1 W W := ⟨Nat.le_refl _, fun _ _ h _ _ => h⟩
theorem KeptX.trans {n0 n1 : Nat} {A B C : World} (h : KeptX n0 n1 A B) (k : KeptX n0 n1 B C) : KeptX n0 n1 A C := ⟨Nat.le_trans h.1 k.1, fun j o ho hc hj => k.2 j o (h.2 j o ho hc hj) hc hj⟩
theorem KeptX.of_below {n0 n1 : Nat} {W W' : World} (h : Below W.heap.size W W') : KeptX n0 n1 W W' := ⟨h.size, fun j _ ho _ _ => (h.block j (Array.getElem?_eq_some_iff.1 ho).1).trans ho⟩
theorem KeptX.cell {n0 n1 : Nat} {W W' : World} (h : KeptX n0 n1 W W') {b o : Nat} {v : Value} (hv : W.cell? ⟨b, o, none⟩ = some v) (hb : b < n0 ∨ (n1 ≤ b ∧ ∀ o, W.heap[b]? = some o → notText o = true)) : W'.cell? ⟨b, o, none⟩ = some v := by
  obtain ⟨x, hx, hc⟩ := cells_of_cell hv
  exact (World.cell?_of_block ((h.2 b x hx hc (by rcases hb with hb | ⟨h1, h2⟩; exact .inl hb; exact .inr ⟨h1, h2 x hx⟩)).trans hx.symm)).trans hv
theorem KeptX.sub {n0 n1 : Nat} {w W W' : World} (h : KeptX n0 n1 W W') (hs : Sub w W) (hn : w.heap.size ≤ n0) : Sub w W' := fun b o v hv =>
  h.cell (hs b o v hv) (.inl (Nat.lt_of_lt_of_le (World.block_lt_of_cell? w _ hv) hn))
end Go.Proofs.Ytbbbmmemfndnlaa
/- All papers that a tree takes in, by the program: Imports. -/
namespace Go.Proofs.Ytbbbmmemfndnlaa
open Go.RowKit Go.Shelf
attribute [local go_sem] Oper.semAt_some cell_alloc_is frozen_alloc_is
theorem NL.own {B lb : Nat} {W W' : World} {ns : List ByteArray} (h : NL B W lb ns) (hk : ∀ (j : Nat) (o : Obj), W.heap[j]? = some o → o.isCells = true → W'.heap[j]? = some o) : NL B W' lb ns := by
  obtain ⟨a, c, h1, ⟨cs, h2, h3⟩, h4⟩ := h
  refine ⟨a, c, h1.of_block (fun g hg => ?_), ⟨cs, hk _ _ h2 rfl, h3⟩, h4⟩
  obtain ⟨cs, hcs⟩ := h1.isText hg
  rw [hk _ _ hcs rfl, hcs]
theorem Wr.others {B lb : Nat} {W W' : World} {ns : List ByteArray} (h : Wr B lb W W') (hn : NL B W lb ns) : KeepsOthers W W' := by
  refine ⟨h.1.size, fun k o hk ho => ?_⟩
  obtain ⟨a, c, _, ⟨cs, h2, _⟩, _⟩ := hn
  refine (h.2 k (Array.getElem?_eq_some_iff.1 hk).1 (fun e => ?_) (.inr fun cs z e => ?_)).trans hk
  · subst e; rw [h2] at hk; cases hk; cases ho
  · rw [e] at hk; cases hk; cases ho
theorem OwnT.mono {B B' : Nat} {w : World} {a : Option Addr} {c : Nat} {ns : List ByteArray} (h : OwnT B w a c ns) (hB : B' ≤ B) : OwnT B' w a c ns := by
  rcases h with h | ⟨g, f, h1, h2, h3⟩
  · exact .inl h
  · exact .inr ⟨g, f, h1, by omega, h3⟩
end Go.Proofs.Ytbbbmmemfndnlaa
