/- My own texts, joined: Xb Kr Sd Sg Sh Wa Wb Wc Wd Wg Wh Si Wi Sj Wj Wf Vc Wk. -/
import Derived.Test.YtpgpkdeiapeoiaaJIniPut6
import Derived.Carry
import Derived.Laws.OwnMore
import Derived.Test.YtpgpkdeiapeoiaaJIniPut4
import Derived.Deep.RegionHeld3
import Derived.Test.YtpgpkdeiapeoiaaJIniPut5
/- Values that are ok: what the program asks of an object. -/
namespace Go.Proofs.Ytpgpkdeiapeoiaa
open Go.RowKit
set_option maxRecDepth 100000 in
set_option maxHeartbeats 1000000 in
theorem objFits_any (ss : List ByteArray) (na : Option Addr) (nc : Nat) (a : Option Addr) (n c : Nat) (w : World) (hin : SIn w ss na) (hl : ss.length ≤ nc) (hc : nc ≤ maxLen) :
    Calls Try.prog 122 #[.agg #[.slice na ss.length nc, .slice a n c]] w fun r w' => SaysT (ss.length = n ∧ nmAsc ss ss.length) r ∧ Below w.heap.size w w' := by
  unfold maxLen at hc
  obtain ⟨N, hN⟩ : ∃ N, ss.length = N := ⟨_, rfl⟩
  have HN : Hid (ss.length = N) := hN
  rw [hN] at hl ⊢
  clear hN
  have hB0 := (Below.refl _ w).alloc (Nat.le_refl _) (.cells #[.slice na N nc, .slice a n c] 84)
  have R0 := Row.new w [.slice na N nc, .slice a n c] 84
  by_cases hne : N = n
  · subst hne
    go_enter Try.func122, Try.ntmps122
    go_wp2_with fail
    obtain ⟨W0, hW0⟩ : ∃ W0, w.alloc (.cells #[.slice na N nc, .slice a N c] 84) = W0 := ⟨_, rfl⟩
    rw [show w.alloc (.cells [.slice na N nc, .slice a N c].toArray 84) = W0 from hW0] at R0
    rw [hW0] at hB0
    have HBx : Hid (∀ W, Below W0.heap.size W0 W → W.cell? ⟨w.heap.size, 0, none⟩ = some (.slice na N nc)) := fun W h => (R0.below h R0.lt 0 _ rfl).1
    clear R0
    go_loopw [15] (fun i wr => ∃ (j : Nat), i = .int .i64 j ∧ j ≤ N ∧ nmAsc ss j ∧ Below W0.heap.size W0 wr) (fun i _ => N - (intOf i).toNat)
    case atStart => exact ⟨0, rfl, Nat.zero_le _, nmAsc_zero ss, by rw [hW0]; exact Below.refl _ _⟩
    case round =>
      obtain ⟨j, rfl, hj, hP, hbz⟩ := hrel
      have HP : Hid (nmAsc ss j) := hP
      clear hP hW0
      have hb := hB0.trans (hbz.mono hB0.size)
      have x0 := HBx.out _ hbz
      by_cases hjn : j < N
      · have hlt : (j : Int) < (N : Int) := by omega
        obtain ⟨s, hs⟩ : ∃ s, ss[j]? = some s := ⟨ss[j]'(by rw [HN.out]; exact hjn), List.getElem?_eq_getElem _⟩
        rcases hin with hin | ⟨b, o, rfl, hF⟩
        · rw [hin] at hs; simp at hs
        obtain ⟨h1, hsz⟩ := (hF.grow hb).at hs
        have HS : Hid (ss[j]? = some s) := hs
        clear hs
        have HNm := iNameOk_any s wr hsz
        cases hnm : Qm.name s
        · have HR : Hid (¬ (N = N ∧ nmAsc ss N)) := fun h => nmAsc_bad hjn HS.out hnm h.2
          rw [hnm] at HNm
          clear hF
          go_wp2_with (go_at_call 124; refine HNm.mono ?_; rintro e w' ⟨rfl, rfl⟩)
          go_ret
          exact ⟨⟨false, rfl, fun h => (by cases h), fun h => absurd h HR.out⟩, hb⟩
        · rw [hnm] at HNm
          cases j with
          | zero =>
            have h1' : wr.cell? ⟨b, o, none⟩ = some (.string s) := h1
            have hN0 : ¬ N = 0 := by omega
            clear hF h1
            go_wp2_with (go_at_call 124; refine HNm.mono ?_; rintro e w' ⟨rfl, rfl⟩)
            go_round
            case rel => exact ⟨1, by go_num, by omega, nmAsc_first HS.out hnm, hbz⟩
            case measure => simp [intOf]; omega
          | succ i =>
            obtain ⟨p, hp⟩ : ∃ p, ss[i]? = some p := ⟨ss[i]'(by rw [HN.out]; omega), List.getElem?_eq_getElem _⟩
            have h2 := ((hF.grow hb).at hp).1
            have HPr : Hid (ss[i]? = some p) := hp
            clear hF hp
            have hlt' : (i : Int) + 1 < (N : Int) := by omega
            have hlt2 : (i : Int) < (N : Int) := by omega
            have hj0 : ¬ (i : Int) + 1 < 0 := by omega
            have hj1 : (0 : Int) < (i : Int) + 1 := by omega
            cases hbl : Op.bytesLess p.toList s.toList
            · have HR : Hid (¬ (N = N ∧ nmAsc ss N)) := fun h => nmAsc_down hjn HS.out HPr.out hbl h.2
              go_wp2_with (go_at_call 124; refine HNm.mono ?_; rintro e w' ⟨rfl, rfl⟩)
              go_ret
              exact ⟨⟨false, rfl, fun h => (by cases h), fun h => absurd h HR.out⟩, hb⟩
            · go_wp2_with (go_at_call 124; refine HNm.mono ?_; rintro e w' ⟨rfl, rfl⟩)
              go_round
              case rel => exact ⟨i + 1 + 1, by go_num, by omega, nmAsc_next HP.out HS.out HPr.out hnm hbl, hbz⟩
              case measure => simp [intOf]; omega
      · have e : j = N := by omega
        subst e
        clear hin
        go_wp2_with fail
        go_ret
        exact ⟨⟨true, rfl, fun _ => ⟨trivial, HP.out⟩, fun _ => rfl⟩, hb⟩
  · have hne' : ¬ (N : Int) = (n : Int) := by omega
    clear hin R0
    go_enter Try.func122, Try.ntmps122
    go_wp2_with fail
    go_ret
    exact ⟨⟨false, rfl, fun h => (by cases h), fun h => absurd h.1 hne⟩, hB0⟩
end Go.Proofs.Ytpgpkdeiapeoiaa
/- Maps whose keys are places of lists: an entry found or made, and written by its stamp ('m[k]++'). -/
namespace Go.Proofs.Ytpgpkdeiapeoiaa
open Go.RowKit
section
variable {K : Type} [DecidableEq K] {P : Program} {kt : TypeId} (Q : Keys K P kt)
/-- the stamps of the entries are below the clock, no two alike -/
def Stamps (es : List MapEntry) (clock : Nat) : Prop := (∀ e ∈ es, e.born < clock) ∧ es.Pairwise (fun a b => a.born ≠ b.born)
/-- block b is the map of these keys and values, rightly stamped -/
def Keys.Has (w : World) (b : Nat) (L : List (K × Value)) : Prop := ∃ es clock, w.heap[b]? = some (.map es clock) ∧ es.toList.map (fun e => (e.key, e.val)) = L.map (fun p => (Q.kv p.1, p.2)) ∧ Stamps es.toList clock
theorem Keys.Has.is {w : World} {b : Nat} {L : List (K × Value)} (h : Q.Has w b L) : Q.Is w b L := by
  obtain ⟨es, clock, h1, h2, _⟩ := h
  exact ⟨es, clock, h1, h2⟩
theorem Keys.Has.same {w w' : World} {b : Nat} {L : List (K × Value)} (h : Q.Has w b L) (hb : w'.heap[b]? = w.heap[b]?) : Q.Has w' b L := by
  obtain ⟨es, clock, h1, h2⟩ := h
  exact ⟨es, clock, hb.trans h1, h2⟩
theorem Keys.has_new (w' : World) (b : Nat) (h : w'.heap[b]? = some (.map #[] 0)) : Q.Has w' b [] := ⟨#[], 0, h, rfl, fun e he => absurd he (by simp), by simp⟩
/-- the entry of a key, by its stamp -/
def Keys.Stamp (w : World) (b : Nat) (x : K) (s : Nat) (L : List (K × Value)) : Prop := ∃ es clock n e, w.heap[b]? = some (.map es clock) ∧ es.toList.map (fun e => (e.key, e.val)) = L.map (fun p => (Q.kv p.1, p.2)) ∧ Stamps es.toList clock ∧ seekL x L 0 = some (n, e.val) ∧ es[n]? = some e ∧ e.born = s
theorem stamp_find {es : Array MapEntry} {clock n : Nat} {e : MapEntry} (hs : Stamps es.toList clock) (he : es[n]? = some e) : es.findIdx? (fun x => (x.born : Int) == (e.born : Int)) = some n := by
  obtain ⟨hn, hen⟩ := Array.getElem?_eq_some_iff.1 he
  rw [Array.findIdx?_eq_some_iff_getElem]
  refine ⟨hn, by rw [hen]; simp, fun j hj => ?_⟩
  have hp := List.pairwise_iff_getElem.1 hs.2 j n (by simpa using Nat.lt_trans hj hn) (by simpa using hn) hj
  simp only [Array.getElem_toList] at hp
  rw [hen] at hp
  simp
  omega
theorem map_modify {es : Array MapEntry} {L : List (K × Value)} (he : es.toList.map (fun e => (e.key, e.val)) = L.map (fun p => (Q.kv p.1, p.2))) {n : Nat} {x : K} {v : Value} {f : MapEntry → MapEntry} {e : MapEntry} (hen : es[n]? = some e) (hf : ((f e).key, (f e).val) = (Q.kv x, v)) (hl : n < L.length) :
    (es.modify n f).toList.map (fun e => (e.key, e.val)) = (L.set n (x, v)).map (fun p => (Q.kv p.1, p.2)) := by
  apply List.ext_getElem?
  intro i
  have hi : (es.toList.map (fun e => (e.key, e.val)))[i]? = (L.map (fun p => (Q.kv p.1, p.2)))[i]? := by rw [he]
  rw [List.getElem?_map, List.getElem?_map, Array.getElem?_toList] at hi
  rw [List.getElem?_map, List.getElem?_map, Array.getElem?_toList, Array.getElem?_modify, List.getElem?_set]
  by_cases hij : n = i
  · subst hij
    rw [if_pos rfl, if_pos rfl, if_pos hl, hen]
    exact congrArg some hf
  · rw [if_neg hij, if_neg hij]; exact hi
theorem stamps_modify {es : Array MapEntry} {clock n : Nat} {f : MapEntry → MapEntry} (hs : Stamps es.toList clock) (hf : ∀ e, (f e).born = e.born) : Stamps (es.modify n f).toList clock := by
  have hb : (es.modify n f).toList.map (·.born) = es.toList.map (·.born) := by
    apply List.ext_getElem?
    intro i
    rw [List.getElem?_map, List.getElem?_map, Array.getElem?_toList, Array.getElem?_toList, Array.getElem?_modify]
    by_cases hij : n = i
    · rw [if_pos hij]; cases es[i]? with
      | none => rfl
      | some e => exact congrArg some (hf e)
    · rw [if_neg hij]
  refine ⟨fun e he => ?_, ?_⟩
  · have : e.born ∈ (es.modify n f).toList.map (·.born) := List.mem_map.2 ⟨e, he, rfl⟩
    rw [hb] at this
    obtain ⟨e', he', h⟩ := List.mem_map.1 this
    rw [← h]; exact hs.1 e' he'
  · have h1 : (es.toList.map (·.born)).Pairwise (· ≠ ·) := List.pairwise_map.2 hs.2
    rw [← hb] at h1
    exact List.pairwise_map.1 h1
theorem seekL_append {x : K} {z : Value} : ∀ {L : List (K × Value)} {i : Nat}, seekL x L i = none → seekL x (L ++ [(x, z)]) i = some (i + L.length, z) := by
  intro L
  induction L with
  | nil => intro i _; show (if x = x then some (i, z) else _) = _; rw [if_pos rfl]; rfl
  | cons p t ih =>
    obtain ⟨k, u⟩ := p
    intro i h
    unfold seekL at h
    by_cases hk : x = k
    · rw [if_pos hk] at h; cases h
    · rw [if_neg hk] at h
      show (if x = k then some (i, u) else seekL x (t ++ [(x, z)]) (i + 1)) = _
      rw [if_neg hk, ih h, List.length_cons]
      congr 2
      omega
theorem seekL_set {x : K} {v : Value} : ∀ {L : List (K × Value)} {i n : Nat} {u : Value}, seekL x L i = some (i + n, u) → seekL x (L.set n (x, v)) i = some (i + n, v) := by
  intro L
  induction L with
  | nil => intro i n u h; cases h
  | cons p t ih =>
    obtain ⟨k, u'⟩ := p
    intro i n u h
    unfold seekL at h
    by_cases hk : x = k
    · rw [if_pos hk] at h
      simp only [Option.some.injEq, Prod.mk.injEq] at h
      have h0 : n = 0 := by omega
      subst h0
      show (if x = x then some (i, v) else _) = _
      rw [if_pos rfl]; rfl
    · rw [if_neg hk] at h
      obtain ⟨n', _, e1, _⟩ := seekL_some h
      obtain ⟨n2, rfl⟩ : ∃ n2, n = n2 + 1 := ⟨n - 1, by omega⟩
      show (if x = k then some (i, u') else seekL x (t.set n2 (x, v)) (i + 1)) = _
      rw [if_neg hk, show i + (n2 + 1) = i + 1 + n2 by omega]
      exact ih (by rw [h, show i + (n2 + 1) = i + 1 + n2 by omega])
theorem seekL_at {x : K} : ∀ {L : List (K × Value)} {i j : Nat} {v u : Value}, seekL x L i = some (i + j, v) → L[j]? = some (x, u) → u = v := by
  intro L
  induction L with
  | nil => intro i j v u h; cases h
  | cons p t ih =>
    obtain ⟨k, u'⟩ := p
    intro i j v u h h2
    unfold seekL at h
    by_cases hk : x = k
    · rw [if_pos hk] at h
      simp only [Option.some.injEq, Prod.mk.injEq] at h
      have h0 : j = 0 := by omega
      subst h0
      simp at h2
      rw [← h2.2]; exact h.2
    · rw [if_neg hk] at h
      obtain ⟨n', _, e1, _⟩ := seekL_some h
      obtain ⟨j2, rfl⟩ : ∃ j2, j = j2 + 1 := ⟨j - 1, by omega⟩
      exact ih (i := i + 1) (by rw [h, show i + (j2 + 1) = i + 1 + j2 by omega]) (by simpa using h2)
theorem Keys.entry {mty et : TypeId} (hm : P.underlying mty = some (.map kt et)) {w : World} {b : Nat} {L : List (K × Value)} (x : K) (hx : Q.ok w x) (hok : ∀ p ∈ L, Q.ok w p.1) (hb : Q.Has w b L) {z : Value} (hz : (zeroValue et).run P w = .ok z w) :
    ∃ w' s, (Instr.mapEntry mty (.map (some b)) (Q.kv x)).run P w = .ok (.tuple #[(getL x L).getD z, .int .i64 (s : Nat)]) w' ∧ Q.Stamp w' b x s (putL x ((getL x L).getD z) L) ∧ w.grownBy w' (some b) ∧ w'.heap.size = w.heap.size := by
  obtain ⟨es, clock, hh, he, hst⟩ := hb
  have hf := Q.find w x hx L es.toList hok he
  have hg := seekL_get x L 0
  cases h : seekL x L 0 with
  | none =>
    rw [h] at hf hg
    have hg' : getL x L = none := hg.symm
    rw [hg']
    refine ⟨{ w with heap := w.heap.setIfInBounds b (.map (es.push { key := Q.kv x, val := z, born := clock }) (clock + 1)) }, clock, by simp [Instr.mapEntry, run_underlying hm, MapKept.run_getObj_map hh, Q.check, hf, hz, MapKept.run_setObj_map _ hh, Result.andThen, goInt], ?_, ⟨rfl, rfl, rfl, by simp, fun i _ hi => (MapKept.heap_set hh).2 i (fun e => hi (by rw [e]))⟩, by simp⟩
    refine ⟨es.push { key := Q.kv x, val := z, born := clock }, clock + 1, es.size, { key := Q.kv x, val := z, born := clock }, (MapKept.heap_set hh).1, ?_, ?_, ?_, by simp, rfl⟩
    · rw [seekL_none h, Array.toList_push, List.map_append, he, List.map_append]; rfl
    · refine ⟨fun e hee => ?_, ?_⟩
      · rw [Array.toList_push, List.mem_append] at hee
        rcases hee with hee | hee
        · exact Nat.lt_succ_of_lt (hst.1 e hee)
        · rw [List.mem_singleton] at hee; subst hee; exact Nat.lt_succ_self _
      · rw [Array.toList_push, List.pairwise_append]
        refine ⟨hst.2, List.pairwise_singleton _ _, fun a ha c hc => ?_⟩
        rw [List.mem_singleton] at hc; subst hc
        exact Nat.ne_of_lt (hst.1 a ha)
    · show seekL x (putL x z L) 0 = some (es.size, z)
      rw [seekL_none h]
      have hlen : es.size = L.length := by have := congrArg List.length he; simpa using this
      rw [hlen]
      rw [seekL_append h, Nat.zero_add]
  | some p =>
    obtain ⟨j, u⟩ := p
    rw [h] at hf hg
    have hg' : getL x L = some u := hg.symm
    rw [hg']
    obtain ⟨n, u', e1, e2, e3⟩ := seekL_some h
    rw [Nat.zero_add] at e1
    subst e1
    have hl : j < L.length := (List.getElem?_eq_some_iff.1 e2).1
    have hlen : es.size = L.length := by have := congrArg List.length he; simpa using this
    obtain ⟨en, hen⟩ : ∃ en, es[j]? = some en := ⟨es[j]'(by omega), Array.getElem?_eq_getElem (by omega)⟩
    have hpair : (en.key, en.val) = (Q.kv x, u') := by
      have h1 : (es.toList.map (fun e => (e.key, e.val)))[j]? = some (Q.kv x, u') := by rw [he, List.getElem?_map, e2]; rfl
      rw [List.getElem?_map, Array.getElem?_toList, hen] at h1
      exact Option.some.inj h1
    simp only [Prod.mk.injEq] at hpair
    have huu : u' = u := by
      exact seekL_at (i := 0) (by rw [Nat.zero_add]; exact h) e2
    subst huu
    have hks : (Instr.keyThatStays en.key (Q.kv x)).run P w = .ok (Q.kv x) w := by simp [Instr.keyThatStays, hpair.1, Q.bits]
    refine ⟨{ w with heap := w.heap.setIfInBounds b (.map (es.modify j fun e => { e with key := Q.kv x }) clock) }, en.born, by simp [Instr.mapEntry, run_underlying hm, MapKept.run_getObj_map hh, Q.check, hf, hen, hks, MapKept.run_setObj_map _ hh, Result.andThen, goInt], ?_, ⟨rfl, rfl, rfl, by simp, fun i _ hi => (MapKept.heap_set hh).2 i (fun e => hi (by rw [e]))⟩, by simp⟩
    refine ⟨es.modify j fun e => { e with key := Q.kv x }, clock, j, { en with key := Q.kv x }, (MapKept.heap_set hh).1, ?_, stamps_modify hst (fun e => rfl), ?_, ?_, rfl⟩
    · show _ = ((putL x u' L)).map _
      rw [e3]
      exact map_modify Q he hen (by rw [hpair.2]) hl
    · show seekL x (putL x u' L) 0 = some (j, en.val)
      rw [e3, hpair.2]
      have h2 : seekL x L 0 = some (0 + j, u') := by rw [Nat.zero_add]; exact h
      rw [seekL_set h2, Nat.zero_add]
    · rw [Array.getElem?_modify, if_pos rfl, hen]; rfl
/-- the entry is written -/
theorem Keys.store {mty : TypeId} {w : World} {b : Nat} {L : List (K × Value)} {x : K} {s : Nat} (h : Q.Stamp w b x s L) (v : Value) :
    ∃ w', (Instr.entryStore mty (.map (some b)) (.int .i64 (s : Nat)) v).run P w = .ok () w' ∧ Q.Has w' b (putL x v L) ∧ w.grownBy w' (some b) ∧ w'.heap.size = w.heap.size := by
  obtain ⟨es, clock, n, e, hh, he, hst, hsk, hen, hbo⟩ := h
  have hfi := stamp_find hst hen
  rw [hbo] at hfi
  obtain ⟨n', u', e1, e2, e3⟩ := seekL_some hsk
  rw [Nat.zero_add] at e1
  subst e1
  have hl : n < L.length := (List.getElem?_eq_some_iff.1 e2).1
  refine ⟨{ w with heap := w.heap.setIfInBounds b (.map (es.modify n fun e => { e with val := v }) clock) }, by simp [Instr.entryStore, MapKept.run_getObj_map hh, asInt, asIntOf, hfi, MapKept.run_setObj_map _ hh, Result.andThen], ?_, ⟨rfl, rfl, rfl, by simp, fun i _ hi => (MapKept.heap_set hh).2 i (fun e => hi (by rw [e]))⟩, by simp⟩
  refine ⟨es.modify n fun e => { e with val := v }, clock, (MapKept.heap_set hh).1, ?_, stamps_modify hst (fun e => rfl)⟩
  rw [e3]
  have hpair : (e.key, e.val) = (Q.kv x, u') := by
    have h1 : (es.toList.map (fun e => (e.key, e.val)))[n]? = some (Q.kv x, u') := by rw [he, List.getElem?_map, e2]; rfl
    rw [List.getElem?_map, Array.getElem?_toList, hen] at h1
    exact Option.some.inj h1
  simp only [Prod.mk.injEq] at hpair
  exact map_modify Q he hen (by rw [hpair.1]) hl
end
end Go.Proofs.Ytpgpkdeiapeoiaa
/- Two trees that are the same, by the program: the row of pairs that are to be done. -/
namespace Go.Proofs.Ytpgpkdeiapeoiaa
open Go.RowKit
theorem pcells_length (S : List It2) : (S.flatMap pcells).length = S.length * 10 := by
  induction S with
  | nil => rfl
  | cons p t ih => rw [List.flatMap_cons, List.length_append, ih, List.length_cons]; show 10 + _ = _; omega
end Go.Proofs.Ytpgpkdeiapeoiaa
/- Two trees that are the same, by the program: keys that can be held against each other, and a measure that is read off a relation. -/
namespace Go.Proofs.Ytpgpkdeiapeoiaa
open Go.RowKit
theorem getL_mem {K : Type} [DecidableEq K] {L : List (K × Value)} {q : K × Value} (h : q ∈ L) : ∃ v, getL q.1 L = some v := by
  induction L with
  | nil => cases h
  | cons p t ih =>
    obtain ⟨k, u⟩ := p
    unfold getL
    by_cases e : q.1 = k
    · exact ⟨u, by rw [if_pos e]⟩
    · rw [if_neg e]
      rcases List.mem_cons.1 h with h | h
      · subst h; exact absurd rfl e
      · exact ih h
/-- all lists below lie in cells that are not frozen -/
def Fo.Cl (w : World) : Fo → Prop
  | .nil => True
  | .cons _ _ _ _ a _ kids next => PlOk w (plOf a kids.len) ∧ kids.Cl w ∧ next.Cl w
def It.Good (w : World) (x : It) : Prop := PlOk w x.pl ∧ x.F.Cl w
theorem Fo.Cl.at {w : World} : ∀ {F : Fo}, F.Cl w → ∀ {i : Nat}, i < F.len → (F.itAt i).Good w := by
  intro F
  induction F with
  | nil => intro _ i hi; exact absurd hi (Nat.not_lt_zero _)
  | cons k t m e a c kids next _ ih =>
    rintro ⟨h1, h2, h3⟩ i hi
    cases i with
    | zero => exact ⟨h1, h2⟩
    | succ i => exact ih h3 (Nat.lt_of_succ_lt_succ hi)
theorem PlOk.below {w w' : World} {p : Pl} (h : PlOk w p) (hb : Below w.heap.size w w') : PlOk w' p := by
  rcases h with h | ⟨a, cs, t, h1, h2⟩
  · exact .inl h
  · exact .inr ⟨a, cs, t, h1, (hb.block _ (Array.getElem?_eq_some_iff.1 h2).1).trans h2⟩
theorem plOk_of {w : World} {n : Nat} (hc : Clean n w) {b o : Nat} {F : Fo} (hn : n ≤ b) (hF : F.From w b o) : PlOk w (plOf (some ⟨b, o, none⟩) F.len) := by
  cases F with
  | nil => exact .inl rfl
  | cons k t m e a c kids next =>
    have hlt : b < w.heap.size := World.block_lt_of_cell? w _ hF.1.1
    obtain ⟨cs, t', h⟩ := hc b _ hn (Array.getElem?_eq_getElem hlt)
    exact .inr ⟨⟨b, o, none⟩, cs, t', by unfold plOf; rw [if_neg (show ¬ (Fo.cons k t m e a c kids next).len = 0 from Nat.succ_ne_zero _)], by rw [Array.getElem?_eq_getElem hlt, h]⟩
theorem Fo.cl_of {w : World} {n : Nat} (hc : Clean n w) : ∀ (F : Fo) (b o : Nat), F.From w b o → F.Blk (fun b => n ≤ b) → F.Cl w := by
  intro F
  induction F with
  | nil => intro b o _ _; trivial
  | cons k t m e a c kids next ih1 ih2 =>
    rintro b o ⟨_, hk, _, _, _, hn⟩ ⟨h1, h2, h3⟩
    rcases hk with rfl | ⟨b', o', rfl, e2⟩
    · exact ⟨.inl rfl, trivial, ih2 _ _ hn h3⟩
    · rcases h1 with rfl | ⟨b2, o2, e, hP⟩
      · exact ⟨.inl rfl, trivial, ih2 _ _ hn h3⟩
      · cases e
        exact ⟨plOk_of hc hP e2, ih1 _ _ e2 h2, ih2 _ _ hn h3⟩
theorem good_old {w : World} {S D : List It2} {p : It2} (hg : ∀ q, q ∈ D ∨ q ∈ S ++ [p] → q.1.Good w ∧ q.2.Good w) : ∀ q, q ∈ p :: D ∨ q ∈ S → q.1.Good w ∧ q.2.Good w := by
  intro q hq
  rcases hq with hq | hq
  · rcases List.mem_cons.1 hq with rfl | hq
    · exact hg q (.inr (by simp))
    · exact hg q (.inl hq)
  · exact hg q (.inr (List.mem_append_left _ hq))
theorem good_new {w : World} {S D : List It2} {p : It2} (hp : hsame p = true) (hg : ∀ q, q ∈ D ∨ q ∈ S ++ [p] → q.1.Good w ∧ q.2.Good w) : ∀ q, q ∈ p :: D ∨ q ∈ S ++ kidPairs p.1.F p.2.F p.1.F.len → q.1.Good w ∧ q.2.Good w := by
  intro q hq
  rcases hq with hq | hq
  · exact good_old hg q (.inl hq)
  · rcases List.mem_append.1 hq with hq | hq
    · exact good_old hg q (.inr hq)
    · obtain ⟨i, hi, rfl⟩ := kidPairs_mem.1 hq
      obtain ⟨g1, g2⟩ := hg p (.inr (by simp))
      have hl := ((hsame_iff p).1 hp).2
      exact ⟨g1.2.at hi, g2.2.at (by omega)⟩
theorem Loop.count {w : World} {top : It2} {T : Nat} {S D : List It2} {L : List (Pl2 × Value)} (h : Loop w top T S L D) (x : Pl2) : ∃ n0 : Nat, (getL x L).getD (.int .i64 0) = .int .i64 n0 ∧ n0 ≤ T ∧ (n0 = 0 ∨ (1 ≤ n0 ∧ getL x L = some (.int .i64 n0))) := by
  cases hx : getL x L with
  | none => exact ⟨0, rfl, Nat.zero_le _, .inl rfl⟩
  | some v =>
    obtain ⟨n, rfl, h1, h2⟩ := h.vals x v hx
    have := h.room
    exact ⟨n, rfl, by omega, .inr ⟨h1, rfl⟩⟩
theorem putL_putL {K : Type} [DecidableEq K] (x : K) (u v : Value) : ∀ (L : List (K × Value)), putL x v (putL x u L) = putL x v L := by
  intro L
  induction L with
  | nil => show (if x = x then _ else _) = _; rw [if_pos rfl]; rfl
  | cons p t ih =>
    obtain ⟨k, z⟩ := p
    by_cases hk : x = k
    · subst hk
      show putL x v (if x = x then (x, u) :: t else (x, z) :: putL x u t) = (if x = x then (x, v) :: t else (x, z) :: putL x v t)
      rw [if_pos rfl, if_pos rfl]
      show (if x = x then (x, v) :: t else (x, u) :: putL x v t) = _
      rw [if_pos rfl]
    · show putL x v (if x = k then (x, u) :: t else (k, z) :: putL x u t) = (if x = k then (x, v) :: t else (k, z) :: putL x v t)
      rw [if_neg hk, if_neg hk]
      show (if x = k then (x, v) :: putL x u t else (k, z) :: putL x v (putL x u t)) = _
      rw [if_neg hk, ih]
theorem grown_cell {w w' : World} {r : Option Nat} (h : w.grownBy w' r) {b : Nat} (o : Nat) (hb : b < w.heap.size) (hn : some b ≠ r) : w'.cell? ⟨b, o, none⟩ = w.cell? ⟨b, o, none⟩ := World.cell?_of_block (a := ⟨b, o, none⟩) (h.block b hb hn)
theorem exists_least {P : Nat → Prop} (h : ∃ n, P n) : ∃ n, P n ∧ ∀ m, P m → n ≤ m := by
  obtain ⟨n, hn⟩ := h
  induction n using Nat.strongRecOn with
  | ind n ih =>
    by_cases hm : ∃ m, m < n ∧ P m
    · obtain ⟨m, h1, h2⟩ := hm; exact ih m h1 h2
    · exact ⟨n, hn, fun m hP => Nat.le_of_not_lt fun h => hm ⟨m, h, hP⟩⟩
open Classical in
/-- the least number of which something holds -/
noncomputable def least (P : Nat → Prop) : Nat := if h : ∃ n, P n then Classical.choose (exists_least h) else 0
theorem least_spec {P : Nat → Prop} (h : ∃ n, P n) : P (least P) := by
  unfold least
  rw [dif_pos h]
  exact (Classical.choose_spec (exists_least h)).1
theorem least_le {P : Nat → Prop} {n : Nat} (h : P n) : least P ≤ n := by
  unfold least
  rw [dif_pos ⟨n, h⟩]
  exact (Classical.choose_spec (exists_least ⟨n, h⟩)).2 n h
end Go.Proofs.Ytpgpkdeiapeoiaa
/- Two trees that are the same, by the program: the region that counts a pair of lists. -/
namespace Go.Proofs.Ytpgpkdeiapeoiaa
open Go.RowKit
/-- four cells of a block -/
abbrev FourC (b : Nat) (v0 v1 v2 v3 : Value) (w : World) : Prop := w.cell? ⟨b, 0, none⟩ = some v0 ∧ w.cell? ⟨b, 1, none⟩ = some v1 ∧ w.cell? ⟨b, 2, none⟩ = some v2 ∧ w.cell? ⟨b, 3, none⟩ = some v3
theorem FourC.grown {w w' : World} {r : Option Nat} (h : w.grownBy w' r) {b : Nat} {v0 v1 v2 v3 : Value} (hn : some b ≠ r) (f : FourC b v0 v1 v2 v3 w) : FourC b v0 v1 v2 v3 w' := by
  have hb : b < w.heap.size := World.block_lt_of_cell? _ _ f.1
  exact ⟨(grown_cell h 0 hb hn).trans f.1, (grown_cell h 1 hb hn).trans f.2.1, (grown_cell h 2 hb hn).trans f.2.2.1, (grown_cell h 3 hb hn).trans f.2.2.2⟩
theorem PlOk.grown {w w' : World} {p : Pl} {mb clock : Nat} {es : Array MapEntry} (h : PlOk w p) (hg : w.grownBy w' (some mb)) (hm : w.heap[mb]? = some (.map es clock)) : PlOk w' p := by
  rcases h with h | ⟨a, cs, t, h1, h2⟩
  · exact .inl h
  · refine .inr ⟨a, cs, t, h1, (hg.block _ (Array.getElem?_eq_some_iff.1 h2).1 (fun e => ?_)).trans h2⟩
    have e' := Option.some.inj e
    rw [e', hm] at h2
    cases h2
theorem grown_trans {a b c : World} {r : Option Nat} (h : a.grownBy b r) (k : b.grownBy c r) : a.grownBy c r := ⟨k.os.trans h.os, k.tape.trans h.tape, k.output.trans h.output, Nat.le_trans h.size k.size, fun i hi hn => (k.block i (Nat.lt_of_lt_of_le hi h.size) hn).trans (h.block i hi hn)⟩
end Go.Proofs.Ytpgpkdeiapeoiaa
/- Two values that are the same, by the program: keys that are places of lists of values; heads that are the same. -/
namespace Go.Proofs.Ytpgpkdeiapeoiaa
open Go.RowKit
theorem Vo.from_inj {w : World} : ∀ (F G : Vo) (b o : Nat), F.From w b o → G.From w b o → F.len = G.len → F = G := by
  intro F
  induction F with
  | nil => intro G b o _ _ h; cases G with
    | nil => rfl
    | cons => exact absurd h.symm (Nat.succ_ne_zero _)
  | cons h a c kids next ih1 ih2 =>
    intro G b o hF hG hl
    cases G with
    | nil => exact absurd hl (Nat.succ_ne_zero _)
    | cons h' a' c' kids' next' =>
      obtain ⟨⟨f0, f1, f2, f3, f4, f5⟩, fk, _, ⟨fs, _⟩, fn⟩ := hF
      obtain ⟨⟨g0, g1, g2, g3, g4, g5⟩, gk, _, ⟨gs, _⟩, gn⟩ := hG
      have e0 : h.k = h'.k := by rw [f0] at g0; simpa using g0
      have e1 : h.m = h'.m := by rw [f1] at g1; simpa using g1
      have e2 : h.e = h'.e := by rw [f2] at g2; simpa using g2
      have e3 : h.t = h'.t := by rw [f3] at g3; simpa using g3
      have e4 : a = a' ∧ kids.len = kids'.len ∧ c = c' := by rw [f4] at g4; simpa using g4
      have e5 : h.na = h'.na ∧ h.ns.length = h'.ns.length ∧ h.nc = h'.nc := by rw [f5] at g5; simpa using g5
      have hss : h.ns = h'.ns := by
        rcases fs with fs | ⟨b1, o1, q1, fs⟩
        · rw [fs] at e5 ⊢
          exact (List.eq_nil_of_length_eq_zero e5.2.1.symm).symm
        · rcases gs with gs | ⟨b2, o2, q2, gs⟩
          · rw [gs] at e5 ⊢
            exact List.eq_nil_of_length_eq_zero e5.2.1
          · rw [e5.1, q2] at q1
            cases q1
            apply List.ext_getElem?
            intro i
            by_cases hi : i < h.ns.length
            · have s1 := (fs.at (List.getElem?_eq_getElem hi)).1
              have hi2 : i < h'.ns.length := by rw [← e5.2.1]; exact hi
              have s2 := (gs.at (List.getElem?_eq_getElem hi2)).1
              rw [s1] at s2
              rw [List.getElem?_eq_getElem hi, List.getElem?_eq_getElem hi2]
              simpa using s2
            · rw [List.getElem?_eq_none (by omega), List.getElem?_eq_none (by rw [← e5.2.1]; omega)]
      have hhd : h = h' := by
        cases h; cases h'
        simp only [Hd.mk.injEq]
        exact ⟨e0, e1, e2, e3, e5.1, e5.2.2, hss⟩
      have hkk : kids = kids' := by
        rcases fk with fk | ⟨b1, o1, q1, fk⟩
        · subst fk
          cases kids' with
          | nil => rfl
          | cons => exact absurd e4.2.1.symm (Nat.succ_ne_zero _)
        · rcases gk with gk | ⟨b2, o2, q2, gk⟩
          · subst gk
            cases kids with
            | nil => rfl
            | cons => exact absurd e4.2.1 (Nat.succ_ne_zero _)
          · rw [e4.1, q2] at q1
            cases q1
            exact ih1 kids' _ _ fk gk e4.2.1
      rw [hhd, e4.1, e4.2.2, hkk, ih2 next' b (o + 6) fn gn (Nat.succ.inj hl)]
set_option maxHeartbeats 400000 in
theorem belowV_any (h : Hd) (a : Option Addr) (n c : Nat) (w : World) :
    Calls Try.prog 109 #[valV h a n c] w fun r w' => r = .returned (.slice a n c) ∧ Below w.heap.size w w' := by
  go_enter Try.func109, Try.ntmps109
  go_wp2_with fail
  go_ret
  exact ⟨rfl, (Below.refl _ w).alloc (Nat.le_refl _) _⟩
/-- which function the values' own is -/
theorem belowV_method (v : Value) (W : World) : (method 233 33 v "loop.example/chancery/impl.below").run Try.prog W = .ok (109, v) W := by kernel_rfl
theorem sameHeadV_method (v : Value) (W : World) : (method 233 33 v "loop.example/chancery/impl.sameHead").run Try.prog W = .ok (66, v) W := by kernel_rfl
instance (h g : Hd) : Decidable (h.same g) := by unfold Hd.same; infer_instance
/-- heads that are the same -/
def headSameV (h : Hd) (n : Nat) (g : Hd) (n' : Nat) : Bool := decide (h.same g ∧ n = n')
set_option maxRecDepth 100000 in
set_option maxHeartbeats 1000000 in
theorem sameHeadV_any (h g : Hd) (a a2 : Option Addr) (n c n2 c2 : Nat) (w : World) (hh : h.In w) (hg : g.In w) :
    Calls Try.prog 66 #[valV h a n c, valV g a2 n2 c2] w fun r w' => r = .returned (.bool (headSameV h n g n2)) ∧ Below w.heap.size w w' := by
  obtain ⟨k, m, e, t, na, nc, ns⟩ := h
  obtain ⟨k', m', e', t', na', nc', ns'⟩ := g
  have hB := ((Below.refl _ w).alloc (Nat.le_refl _) (.cells #[.int .i64 k, .int .i64 m, .int .i64 e, .string t, .slice a n c, .slice na ns.length nc] 33)).alloc (by simp) (.cells #[.int .i64 k', .int .i64 m', .int .i64 e', .string t', .slice a2 n2 c2, .slice na' ns'.length nc'] 33)
  have no : ∀ (P : Prop), (¬ ((⟨k, m, e, t, na, nc, ns⟩ : Hd).same ⟨k', m', e', t', na', nc', ns'⟩ ∧ n = n2)) → headSameV ⟨k, m, e, t, na, nc, ns⟩ n ⟨k', m', e', t', na', nc', ns'⟩ n2 = false := fun _ h => decide_eq_false h
  by_cases h1 : k = k'
  · subst h1
    by_cases h2 : m = m'
    · subst h2
      by_cases h3 : e = e'
      · subst h3
        by_cases h4 : t = t'
        · subst h4
          by_cases h5 : n = n2
          · subst h5
            have HI : Hid ((SIn w ns na ∧ SIn w ns' na') ∧ ns.length ≤ nc ∧ nc ≤ maxLen ∧ ns'.length ≤ nc') := ⟨⟨hh.1, hg.1⟩, hh.2.1.1, hh.2.1.2, hg.2.1.1⟩
            have HE : Hid (headSameV ⟨k, m, e, t, na, nc, ns⟩ n ⟨k, m, e, t, na', nc', ns'⟩ n = decide (ns = ns')) := by
              unfold Hid headSameV Hd.same
              simp
            clear hh hg no
            go_enter Try.func66, Try.ntmps66
            go_wp2_with fail
            refine (equalS_any ns ns' na na' nc nc' _ (HI.out.1.1.grow hB) (HI.out.1.2.grow hB) HI.out.2.1 HI.out.2.2.1 HI.out.2.2.2).mono ?_
            rintro r w1 ⟨rfl, hb1⟩
            have hB1 := hB.trans (hb1.mono hB.size)
            generalize hq : decide (ns = ns') = q
            rw [hq] at HE
            clear hq
            go_wp2_with fail
            go_ret
            exact ⟨by rw [HE.out]; rfl, hB1⟩
          · have HN : Hid _ := no True (fun x => h5 x.2)
            have h5' : ¬ (n : Int) = (n2 : Int) := by omega
            clear hh hg no
            go_enter Try.func66, Try.ntmps66
            go_wp2_with fail
            go_ret
            exact ⟨by rw [HN.out]; rfl, hB⟩
        · have HN : Hid _ := no True (fun x => h4 x.1.1.2.2.2)
          have h4' : (t.toList == t'.toList) = false := by have := text_ne h4; simpa using this
          clear hh hg no
          go_enter Try.func66, Try.ntmps66
          go_wp2_with fail
          go_ret
          exact ⟨by rw [HN.out]; rfl, hB⟩
      · have HN : Hid _ := no True (fun x => h3 x.1.1.2.2.1)
        clear hh hg no
        go_enter Try.func66, Try.ntmps66
        go_wp2_with fail
        go_ret
        exact ⟨by rw [HN.out]; rfl, hB⟩
    · have HN : Hid _ := no True (fun x => h2 x.1.1.2.1)
      clear hh hg no
      go_enter Try.func66, Try.ntmps66
      go_wp2_with fail
      go_ret
      exact ⟨by rw [HN.out]; rfl, hB⟩
  · have HN : Hid _ := no True (fun x => h1 x.1.1.1)
    clear hh hg no
    go_enter Try.func66, Try.ntmps66
    go_wp2_with fail
    go_ret
    exact ⟨by rw [HN.out]; rfl, hB⟩
end Go.Proofs.Ytpgpkdeiapeoiaa
/- Two values that are the same, by the program: the pairs of two lists. -/
namespace Go.Proofs.Ytpgpkdeiapeoiaa
open Go.RowKit
def Hd.cells (h : Hd) (a : Option Addr) (n c : Nat) : List Value := [.int .i64 h.k, .int .i64 h.m, .int .i64 h.e, .string h.t, .slice a n c, .slice h.na h.ns.length h.nc]
def Vo.cellsAt (F : Vo) (i : Nat) : List Value := (F.hdAt i).cells (F.addrAt i) (F.kidsAt i).len (F.capAt i)
/-- the cells of the first n pairs -/
def pairCellsV (F G : Vo) : Nat → List Value
  | 0 => []
  | n + 1 => pairCellsV F G n ++ (F.cellsAt n ++ G.cellsAt n)
theorem pairCellsV_length (F G : Vo) (n : Nat) : (pairCellsV F G n).length = n * 12 := by
  induction n with
  | zero => rfl
  | succ n ih => show (pairCellsV F G n ++ (F.cellsAt n ++ G.cellsAt n)).length = _; rw [List.length_append, ih]; show _ + 12 = _; omega
theorem pairCellsV_one (F G : Vo) (n : Nat) : ∀ u ∈ pairCellsV F G n, u.oneCell' = true := by
  induction n with
  | zero => intro u hu; cases hu
  | succ n ih =>
    intro u hu
    rcases List.mem_append.1 (show u ∈ pairCellsV F G n ++ (F.cellsAt n ++ G.cellsAt n) from hu) with h | h
    · exact ih u h
    · simp [Vo.cellsAt, Hd.cells] at h
      rcases h with h | h | h | h | h | h | h | h | h | h | h | h <;> subst h <;> rfl
end Go.Proofs.Ytpgpkdeiapeoiaa
/- Two values that are the same: what the program's loop keeps, as plain mathematics. -/
namespace Go.Proofs.Ytpgpkdeiapeoiaa
/-- a value as it stands in a list: its head, where its list lies, that list -/
structure ItV where
  h : Hd
  a : Option Addr
  F : Vo
  c : Nat
def ItV.cells (x : ItV) : List Value := x.h.cells x.a x.F.len x.c
def Vo.itAt (F : Vo) (i : Nat) : ItV := ⟨F.hdAt i, F.addrAt i, F.kidsAt i, F.capAt i⟩
abbrev It2V := ItV × ItV
def hsameV (p : It2V) : Bool := headSameV p.1.h p.1.F.len p.2.h p.2.F.len
/-- two values are the same but for where they lie -/
def same2V (p : It2V) : Prop := p.1.h.same p.2.h ∧ p.1.F.alike p.2.F
theorem hsame_iffV (p : It2V) : hsameV p = true ↔ p.1.h.same p.2.h ∧ p.1.F.len = p.2.F.len := by
  unfold hsameV headSameV
  exact decide_eq_true_iff
theorem same2_headV {p : It2V} (h : same2V p) : hsameV p = true := (hsame_iffV p).2 ⟨h.1, Vo.alike_len h.2⟩
theorem alike_kidsV : ∀ {G F : Vo}, F.alike G → ∀ i, i < F.len → same2V (F.itAt i, G.itAt i) := by
  intro G
  induction G with
  | nil => intro F h i hi; rw [Vo.alike_nil h] at hi; exact absurd hi (Nat.not_lt_zero _)
  | cons g a c kids next _ ih =>
    intro F h i hi
    obtain ⟨g', a', c', kids', next', rfl, h0, h1, h2⟩ := Vo.alike_cons h
    cases i with
    | zero => exact ⟨h0, h1⟩
    | succ i => exact ih h2 i (Nat.lt_of_succ_lt_succ hi)
theorem alike_of_kidsV : ∀ {F G : Vo}, F.len = G.len → (∀ i, i < F.len → same2V (F.itAt i, G.itAt i)) → F.alike G := by
  intro F
  induction F with
  | nil => intro G h _; cases G with
    | nil => trivial
    | cons => exact absurd h.symm (Nat.succ_ne_zero _)
  | cons g a c kids next _ ih =>
    intro G h hk
    cases G with
    | nil => exact absurd h (Nat.succ_ne_zero _)
    | cons g' a' c' kids' next' =>
      obtain ⟨h1, h2⟩ := hk 0 (Nat.succ_pos _)
      exact ⟨h1, h2, ih (Nat.succ.inj h) fun i hi => hk (i + 1) (Nat.succ_lt_succ hi)⟩
/-- what is closed is the same all through -/
theorem closed_sameV (X : It2V → Prop) (h : ∀ p, X p → hsameV p = true ∧ ∀ i, i < p.1.F.len → X (p.1.F.itAt i, p.2.F.itAt i)) (N : Nat) : ∀ p, p.1.F.size < N → X p → same2V p := by
  induction N with
  | zero => intro p hp; omega
  | succ N ih =>
    intro p hp hX
    obtain ⟨h1, h2⟩ := h p hX
    obtain ⟨h3, h4⟩ := (hsame_iffV p).1 h1
    exact ⟨h3, alike_of_kidsV h4 fun i hi => ih _ (by have := Vo.size_at hi; show (p.1.F.kidsAt i).size < N; omega) (h2 i hi)⟩
/-- where a tree's list lies -/
def ItV.pl (x : ItV) : Pl := plOf x.a x.F.len
theorem pl_injV {w : World} {x y : ItV} (hx : x.F.In w x.a) (hy : y.F.In w y.a) (h : x.pl = y.pl) : x.F = y.F := by
  unfold ItV.pl plOf at h
  by_cases h1 : x.F.len = 0
  · rw [if_pos h1] at h
    by_cases h2 : y.F.len = 0
    · have e1 : x.F = .nil := by cases hF : x.F with
        | nil => rfl
        | cons => rw [hF] at h1; exact absurd h1 (Nat.succ_ne_zero _)
      have e2 : y.F = .nil := by cases hF : y.F with
        | nil => rfl
        | cons => rw [hF] at h2; exact absurd h2 (Nat.succ_ne_zero _)
      rw [e1, e2]
    · rw [if_neg h2] at h
      exact absurd (congrArg Prod.snd h).symm h2
  · rw [if_neg h1] at h
    by_cases h2 : y.F.len = 0
    · rw [if_pos h2] at h
      exact absurd (congrArg Prod.snd h) h1
    · rw [if_neg h2] at h
      have ha : x.a = y.a := congrArg Prod.fst h
      have hl : x.F.len = y.F.len := congrArg Prod.snd h
      obtain ⟨b, o, e1, f1⟩ := Vo.from_of_len hx (show 0 < x.F.len by omega)
      obtain ⟨b', o', e2, f2⟩ := Vo.from_of_len hy (show 0 < y.F.len by omega)
      rw [ha, e2] at e1
      cases e1
      exact Vo.from_inj _ _ _ _ f1 f2 hl
/-- the pairs of two lists -/
def kidPairsV (F G : Vo) : Nat → List It2V
  | 0 => []
  | n + 1 => kidPairsV F G n ++ [(F.itAt n, G.itAt n)]
theorem kidPairs_memV {F G : Vo} {n : Nat} {p : It2V} : p ∈ kidPairsV F G n ↔ ∃ i, i < n ∧ p = (F.itAt i, G.itAt i) := by
  induction n with
  | zero =>
    constructor
    · intro h; exact absurd h (List.not_mem_nil)
    · rintro ⟨i, h, _⟩; exact absurd h (Nat.not_lt_zero _)
  | succ n ih =>
    show p ∈ kidPairsV F G n ++ [(F.itAt n, G.itAt n)] ↔ _
    rw [List.mem_append, ih, List.mem_singleton]
    constructor
    · rintro (⟨i, hi, h⟩ | h)
      · exact ⟨i, by omega, h⟩
      · exact ⟨n, by omega, h⟩
    · rintro ⟨i, hi, h⟩
      rcases Nat.lt_succ_iff_lt_or_eq.1 hi with hi | rfl
      · exact .inl ⟨i, hi, h⟩
      · exact .inr h
def pcellsV (p : It2V) : List Value := p.1.cells ++ p.2.cells
theorem kidPairs_cellsV (F G : Vo) (n : Nat) : (kidPairsV F G n).flatMap pcellsV = pairCellsV F G n := by
  induction n with
  | zero => rfl
  | succ n ih => show (kidPairsV F G n ++ [(F.itAt n, G.itAt n)]).flatMap pcellsV = pairCellsV F G n ++ (F.cellsAt n ++ G.cellsAt n); rw [List.flatMap_append, ih]; simp [pcellsV, ItV.cells, Vo.itAt, Vo.cellsAt]
theorem kidPairs_lengthV (F G : Vo) (n : Nat) : (kidPairsV F G n).length = n := by
  induction n with
  | zero => rfl
  | succ n ih => show (kidPairsV F G n ++ [(F.itAt n, G.itAt n)]).length = n + 1; rw [List.length_append, ih]; rfl
/-- how much is to be done -/
def wsumV : List It2V → Nat
  | [] => 0
  | p :: t => p.1.F.size + 1 + wsumV t
theorem wsum_appendV (A B : List It2V) : wsumV (A ++ B) = wsumV A + wsumV B := by
  induction A with
  | nil => show wsumV B = 0 + wsumV B; omega
  | cons p t ih => show p.1.F.size + 1 + wsumV (t ++ B) = p.1.F.size + 1 + wsumV t + wsumV B; omega
theorem wsum_lengthV (A : List It2V) : A.length ≤ wsumV A := by
  induction A with
  | nil => exact Nat.le_refl _
  | cons p t ih => show t.length + 1 ≤ p.1.F.size + 1 + wsumV t; omega
def Vo.upTo (F : Vo) : Nat → Nat
  | 0 => 0
  | n + 1 => F.upTo n + ((F.kidsAt n).size + 1)
theorem wsum_kidsV (F G : Vo) (n : Nat) : wsumV (kidPairsV F G n) = F.upTo n := by
  induction n with
  | zero => rfl
  | succ n ih => show wsumV (kidPairsV F G n ++ [(F.itAt n, G.itAt n)]) = F.upTo n + ((F.kidsAt n).size + 1); rw [wsum_appendV, ih]; rfl
theorem upTo_nextV (h : Hd) (a : Option Addr) (c : Nat) (kids next : Vo) (n : Nat) : (Vo.cons h a c kids next).upTo (n + 1) = kids.size + 1 + next.upTo n := by
  induction n with
  | zero => show 0 + (kids.size + 1) = kids.size + 1 + 0; omega
  | succ n ih => show (Vo.cons h a c kids next).upTo (n + 1) + ((next.kidsAt n).size + 1) = kids.size + 1 + (next.upTo n + ((next.kidsAt n).size + 1)); omega
theorem upTo_lenV (F : Vo) : F.upTo F.len = F.size := by
  induction F with
  | nil => rfl
  | cons h a c kids next _ ih => show (Vo.cons h a c kids next).upTo (next.len + 1) = kids.size + 1 + next.size; rw [upTo_nextV, ih]
/-- what the loop keeps: S is to be done, L was met, D is done -/
structure LoopV (w : World) (top : It2V) (T : Nat) (S : List It2V) (L : List (Pl2 × Value)) (D : List It2V) : Prop where
  fwd : same2V top → ∀ p ∈ S, same2V p
  heads : ∀ p ∈ D, hsameV p = true
  closed : ∀ p ∈ D, ∀ i, i < p.1.F.len → (p.1.F.itAt i, p.2.F.itAt i) ∈ D ∨ (p.1.F.itAt i, p.2.F.itAt i) ∈ S
  has : top ∈ D ∨ top ∈ S
  keys : ∀ x v, getL x L = some v → ∃ p ∈ D, x = (p.1.pl, p.2.pl)
  vals : ∀ x v, getL x L = some v → ∃ n : Nat, v = .int .i64 n ∧ 1 ≤ n ∧ n ≤ D.length
  room : D.length + wsumV S ≤ T
  lie : ∀ p, p ∈ D ∨ p ∈ S → p.1.F.In w p.1.a ∧ p.2.F.In w p.2.a
  hdin : ∀ p, p ∈ D ∨ p ∈ S → p.1.h.In w ∧ p.2.h.In w
theorem LoopV.start {w : World} {top : It2V} (h : top.1.F.In w top.1.a ∧ top.2.F.In w top.2.a) (hh : top.1.h.In w ∧ top.2.h.In w) : LoopV w top (top.1.F.size + 1) [top] [] [] where
  fwd := fun h p hp => by rw [List.mem_singleton] at hp; subst hp; exact h
  heads := fun p hp => absurd hp List.not_mem_nil
  closed := fun p hp => absurd hp List.not_mem_nil
  has := .inr (List.mem_singleton.2 rfl)
  keys := fun x v h => by cases h
  vals := fun x v h => by cases h
  room := by show 0 + (top.1.F.size + 1 + 0) ≤ _; omega
  lie := fun p hp => by
    rcases hp with hp | hp
    · exact absurd hp List.not_mem_nil
    · rw [List.mem_singleton] at hp; subst hp; exact h
  hdin := fun p hp => by
    rcases hp with hp | hp
    · exact absurd hp List.not_mem_nil
    · rw [List.mem_singleton] at hp; subst hp; exact hh
theorem LoopV.done {w : World} {top : It2V} {T : Nat} {L : List (Pl2 × Value)} {D : List It2V} (h : LoopV w top T [] L D) : same2V top := by
  have ht : top ∈ D := by rcases h.has with h | h; exact h; cases h
  refine closed_sameV (fun p => p ∈ D) (fun p hp => ⟨h.heads p hp, fun i hi => ?_⟩) (top.1.F.size + 1) top (Nat.lt_succ_self _) ht
  rcases h.closed p hp i hi with h | h
  · exact h
  · cases h
theorem LoopV.fails {w : World} {top p : It2V} {T : Nat} {S D : List It2V} {L : List (Pl2 × Value)} (h : LoopV w top T (S ++ [p]) L D) (hp : hsameV p = false) : ¬ same2V top := fun ht => by
  have := same2_headV (h.fwd ht p (by simp))
  rw [hp] at this; cases this
theorem In_kidV {w : World} {F : Vo} {a : Option Addr} (h : F.In w a) {i : Nat} (hi : i < F.len) : (F.kidsAt i).In w (F.addrAt i) := by
  obtain ⟨b, o, _, hF⟩ := Vo.from_of_len h hi
  exact (Vo.from_at hF hi).2.1
theorem hd_kidV {w : World} {F : Vo} {a : Option Addr} (h : F.In w a) {i : Nat} (hi : i < F.len) : (F.hdAt i).In w := by
  obtain ⟨b, o, _, hF⟩ := Vo.from_of_len h hi
  exact (Vo.from_at hF hi).2.2.2
theorem mem_moveV {S D : List It2V} {p q : It2V} (h : q ∈ D ∨ q ∈ S ++ [p]) : q ∈ p :: D ∨ q ∈ S := by
  rcases h with h | h
  · exact .inl (List.mem_cons_of_mem _ h)
  · rcases List.mem_append.1 h with h | h
    · exact .inr h
    · rw [List.mem_singleton] at h; subst h; exact .inl List.mem_cons_self
/-- a pair whose lists were met -/
theorem LoopV.old {w : World} {top p : It2V} {T : Nat} {S D : List It2V} {L : List (Pl2 × Value)} (h : LoopV w top T (S ++ [p]) L D) (hp : hsameV p = true) {n : Nat} (hk : getL (p.1.pl, p.2.pl) L = some (.int .i64 n)) :
    LoopV w top T S (putL (p.1.pl, p.2.pl) (.int .i64 ((n + 1 : Nat) : Int)) L) (p :: D) where
  fwd := fun ht q hq => h.fwd ht q (List.mem_append_left _ hq)
  heads := fun q hq => by
    rcases List.mem_cons.1 hq with rfl | hq
    · exact hp
    · exact h.heads q hq
  closed := fun q hq i hi => by
    rcases List.mem_cons.1 hq with rfl | hq
    · obtain ⟨r, hr, e⟩ := h.keys _ _ hk
      have hl := h.lie q (.inr (by simp))
      have hlr := h.lie r (.inl hr)
      have e1 : q.1.F = r.1.F := pl_injV hl.1 hlr.1 (congrArg Prod.fst e)
      have e2 : q.2.F = r.2.F := pl_injV hl.2 hlr.2 (congrArg Prod.snd e)
      rw [e1, e2]
      rw [e1] at hi
      exact mem_moveV (h.closed r hr i hi)
    · exact mem_moveV (h.closed q hq i hi)
  has := mem_moveV h.has
  keys := fun x v hx => by
    rw [getL_put] at hx
    by_cases hxk : x = (p.1.pl, p.2.pl)
    · exact ⟨p, List.mem_cons_self, hxk⟩
    · rw [if_neg hxk] at hx
      obtain ⟨q, hq, e⟩ := h.keys x v hx
      exact ⟨q, List.mem_cons_of_mem _ hq, e⟩
  vals := fun x v hx => by
    rw [getL_put] at hx
    by_cases hxk : x = (p.1.pl, p.2.pl)
    · rw [if_pos hxk] at hx
      cases hx
      obtain ⟨n', e1, e2, e3⟩ := h.vals _ _ hk
      have : n = n' := by cases e1; rfl
      subst this
      exact ⟨n + 1, rfl, by omega, by show n + 1 ≤ D.length + 1; omega⟩
    · rw [if_neg hxk] at hx
      obtain ⟨n', e1, e2, e3⟩ := h.vals x v hx
      exact ⟨n', e1, e2, by show n' ≤ D.length + 1; omega⟩
  room := by
    have := h.room
    rw [wsum_appendV] at this
    have e : wsumV [p] = p.1.F.size + 1 + 0 := rfl
    show D.length + 1 + wsumV S ≤ T
    omega
  lie := fun q hq => h.lie q (by
    rcases hq with hq | hq
    · rcases List.mem_cons.1 hq with rfl | hq
      · exact .inr (by simp)
      · exact .inl hq
    · exact .inr (List.mem_append_left _ hq))
  hdin := fun q hq => h.hdin q (by
    rcases hq with hq | hq
    · rcases List.mem_cons.1 hq with rfl | hq
      · exact .inr (by simp)
      · exact .inl hq
    · exact .inr (List.mem_append_left _ hq))
/-- a pair whose lists were not met -/
theorem LoopV.new {w : World} {top p : It2V} {T : Nat} {S D : List It2V} {L : List (Pl2 × Value)} (h : LoopV w top T (S ++ [p]) L D) (hp : hsameV p = true) :
    LoopV w top T (S ++ kidPairsV p.1.F p.2.F p.1.F.len) (putL (p.1.pl, p.2.pl) (.int .i64 1) L) (p :: D) where
  fwd := fun ht q hq => by
    rcases List.mem_append.1 hq with hq | hq
    · exact h.fwd ht q (List.mem_append_left _ hq)
    · obtain ⟨i, hi, rfl⟩ := kidPairs_memV.1 hq
      exact alike_kidsV (h.fwd ht p (by simp)).2 i hi
  heads := fun q hq => by
    rcases List.mem_cons.1 hq with rfl | hq
    · exact hp
    · exact h.heads q hq
  closed := fun q hq i hi => by
    rcases List.mem_cons.1 hq with rfl | hq
    · exact .inr (List.mem_append_right _ (kidPairs_memV.2 ⟨i, hi, rfl⟩))
    · rcases mem_moveV (h.closed q hq i hi) with h | h
      · exact .inl h
      · exact .inr (List.mem_append_left _ h)
  has := by
    rcases mem_moveV h.has with h | h
    · exact .inl h
    · exact .inr (List.mem_append_left _ h)
  keys := fun x v hx => by
    rw [getL_put] at hx
    by_cases hxk : x = (p.1.pl, p.2.pl)
    · exact ⟨p, List.mem_cons_self, hxk⟩
    · rw [if_neg hxk] at hx
      obtain ⟨q, hq, e⟩ := h.keys x v hx
      exact ⟨q, List.mem_cons_of_mem _ hq, e⟩
  vals := fun x v hx => by
    rw [getL_put] at hx
    by_cases hxk : x = (p.1.pl, p.2.pl)
    · rw [if_pos hxk] at hx
      cases hx
      exact ⟨1, rfl, by omega, by show 1 ≤ D.length + 1; omega⟩
    · rw [if_neg hxk] at hx
      obtain ⟨n', e1, e2, e3⟩ := h.vals x v hx
      exact ⟨n', e1, e2, by show n' ≤ D.length + 1; omega⟩
  room := by
    have := h.room
    rw [wsum_appendV] at this ⊢
    rw [wsum_kidsV, upTo_lenV]
    have e : wsumV [p] = p.1.F.size + 1 + 0 := rfl
    show D.length + 1 + (wsumV S + p.1.F.size) ≤ T
    omega
  lie := fun q hq => by
    rcases hq with hq | hq
    · rcases List.mem_cons.1 hq with rfl | hq
      · exact h.lie q (.inr (by simp))
      · exact h.lie q (.inl hq)
    · rcases List.mem_append.1 hq with hq | hq
      · exact h.lie q (.inr (List.mem_append_left _ hq))
      · obtain ⟨i, hi, rfl⟩ := kidPairs_memV.1 hq
        have hl := h.lie p (.inr (by simp))
        have hlen := ((hsame_iffV p).1 hp).2
        exact ⟨In_kidV hl.1 hi, In_kidV hl.2 (by omega)⟩
  hdin := fun q hq => by
    rcases hq with hq | hq
    · rcases List.mem_cons.1 hq with rfl | hq
      · exact h.hdin q (.inr (by simp))
      · exact h.hdin q (.inl hq)
    · rcases List.mem_append.1 hq with hq | hq
      · exact h.hdin q (.inr (List.mem_append_left _ hq))
      · obtain ⟨i, hi, rfl⟩ := kidPairs_memV.1 hq
        have hl := h.lie p (.inr (by simp))
        have hlen := ((hsame_iffV p).1 hp).2
        exact ⟨hd_kidV hl.1 hi, hd_kidV hl.2 (by omega)⟩
end Go.Proofs.Ytpgpkdeiapeoiaa
/- Two values that are the same, by the program: the row of pairs that are to be done. -/
namespace Go.Proofs.Ytpgpkdeiapeoiaa
open Go.RowKit
theorem pcells_lengthV (S : List It2V) : (S.flatMap pcellsV).length = S.length * 12 := by
  induction S with
  | nil => rfl
  | cons p t ih => rw [List.flatMap_cons, List.length_append, ih, List.length_cons]; show 12 + _ = _; omega
end Go.Proofs.Ytpgpkdeiapeoiaa
/- Two values that are the same, by the program: keys that can be held against each other. -/
namespace Go.Proofs.Ytpgpkdeiapeoiaa
open Go.RowKit
/-- all lists below lie in cells that are not frozen -/
def Vo.Cl (w : World) : Vo → Prop
  | .nil => True
  | .cons _ a _ kids next => PlOk w (plOf a kids.len) ∧ kids.Cl w ∧ next.Cl w
def ItV.Good (w : World) (x : ItV) : Prop := PlOk w x.pl ∧ x.F.Cl w
theorem Vo.Cl.at {w : World} : ∀ {F : Vo}, F.Cl w → ∀ {i : Nat}, i < F.len → (F.itAt i).Good w := by
  intro F
  induction F with
  | nil => intro _ i hi; exact absurd hi (Nat.not_lt_zero _)
  | cons hd a c kids next _ ih =>
    rintro ⟨h1, h2, h3⟩ i hi
    cases i with
    | zero => exact ⟨h1, h2⟩
    | succ i => exact ih h3 (Nat.lt_of_succ_lt_succ hi)
theorem plOk_ofV {w : World} {n : Nat} (hc : Clean n w) {b o : Nat} {F : Vo} (hn : n ≤ b) (hF : F.From w b o) : PlOk w (plOf (some ⟨b, o, none⟩) F.len) := by
  cases F with
  | nil => exact .inl rfl
  | cons hd a c kids next =>
    have hlt : b < w.heap.size := hF.1.lt
    obtain ⟨cs, t', h⟩ := hc b _ hn (Array.getElem?_eq_getElem hlt)
    exact .inr ⟨⟨b, o, none⟩, cs, t', by unfold plOf; rw [if_neg (show ¬ (Vo.cons hd a c kids next).len = 0 from Nat.succ_ne_zero _)], by rw [Array.getElem?_eq_getElem hlt, h]⟩
theorem Vo.cl_of {w : World} {n : Nat} (hc : Clean n w) : ∀ (F : Vo) (b o : Nat), F.From w b o → F.Blk (fun b => n ≤ b) → F.Cl w := by
  intro F
  induction F with
  | nil => intro b o _ _; trivial
  | cons hd a c kids next ih1 ih2 =>
    rintro b o ⟨_, hk, _, _, hn⟩ ⟨_, h1, h2, h3⟩
    rcases hk with rfl | ⟨b', o', rfl, e2⟩
    · exact ⟨.inl rfl, trivial, ih2 _ _ hn h3⟩
    · rcases h1 with rfl | ⟨b2, o2, e, hP⟩
      · exact ⟨.inl rfl, trivial, ih2 _ _ hn h3⟩
      · cases e
        exact ⟨plOk_ofV hc hP e2, ih1 _ _ e2 h2, ih2 _ _ hn h3⟩
theorem good_oldV {w : World} {S D : List It2V} {p : It2V} (hg : ∀ q, q ∈ D ∨ q ∈ S ++ [p] → q.1.Good w ∧ q.2.Good w) : ∀ q, q ∈ p :: D ∨ q ∈ S → q.1.Good w ∧ q.2.Good w := by
  intro q hq
  rcases hq with hq | hq
  · rcases List.mem_cons.1 hq with rfl | hq
    · exact hg q (.inr (by simp))
    · exact hg q (.inl hq)
  · exact hg q (.inr (List.mem_append_left _ hq))
theorem good_newV {w : World} {S D : List It2V} {p : It2V} (hp : hsameV p = true) (hg : ∀ q, q ∈ D ∨ q ∈ S ++ [p] → q.1.Good w ∧ q.2.Good w) : ∀ q, q ∈ p :: D ∨ q ∈ S ++ kidPairsV p.1.F p.2.F p.1.F.len → q.1.Good w ∧ q.2.Good w := by
  intro q hq
  rcases hq with hq | hq
  · exact good_oldV hg q (.inl hq)
  · rcases List.mem_append.1 hq with hq | hq
    · exact good_oldV hg q (.inr hq)
    · obtain ⟨i, hi, rfl⟩ := kidPairs_memV.1 hq
      obtain ⟨g1, g2⟩ := hg p (.inr (by simp))
      have hl := ((hsame_iffV p).1 hp).2
      exact ⟨g1.2.at hi, g2.2.at (by omega)⟩
theorem LoopV.count {w : World} {top : It2V} {T : Nat} {S D : List It2V} {L : List (Pl2 × Value)} (h : LoopV w top T S L D) (x : Pl2) : ∃ n0 : Nat, (getL x L).getD (.int .i64 0) = .int .i64 n0 ∧ n0 ≤ T ∧ (n0 = 0 ∨ (1 ≤ n0 ∧ getL x L = some (.int .i64 n0))) := by
  cases hx : getL x L with
  | none => exact ⟨0, rfl, Nat.zero_le _, .inl rfl⟩
  | some v =>
    obtain ⟨n, rfl, h1, h2⟩ := h.vals x v hx
    have := h.room
    exact ⟨n, rfl, by omega, .inr ⟨h1, rfl⟩⟩
end Go.Proofs.Ytpgpkdeiapeoiaa
/- Two values that are the same, by the program: the region that counts a pair of lists. -/
namespace Go.Proofs.Ytpgpkdeiapeoiaa
open Go.RowKit
end Go.Proofs.Ytpgpkdeiapeoiaa
/- Two trees that are the same, by the program: the region that makes the pair of places of two lists. -/
namespace Go.Proofs.Ytpgpkdeiapeoiaa
open Go.RowKit
/-- four cells of a block, that may be written -/
def Four (w : World) (b : Nat) (v0 v1 v2 v3 : Value) : Prop := (w.cell? ⟨b, 0, none⟩ = some v0 ∧ w.cell? ⟨b, 1, none⟩ = some v1 ∧ w.cell? ⟨b, 2, none⟩ = some v2 ∧ w.cell? ⟨b, 3, none⟩ = some v3) ∧ (w.frozen? ⟨b, 0, none⟩ = false ∧ w.frozen? ⟨b, 1, none⟩ = false ∧ w.frozen? ⟨b, 2, none⟩ = false ∧ w.frozen? ⟨b, 3, none⟩ = false)
theorem Four.new (w : World) (v0 v1 v2 v3 : Value) (T : TypeId) : Four (w.alloc (.cells #[v0, v1, v2, v3] T)) w.heap.size v0 v1 v2 v3 := by
  refine ⟨⟨?_, ?_, ?_, ?_⟩, ?_, ?_, ?_, ?_⟩ <;> simp
theorem Four.lt {w : World} {b : Nat} {v0 v1 v2 v3 : Value} (h : Four w b v0 v1 v2 v3) : b < w.heap.size := World.block_lt_of_cell? w _ h.1.1
theorem Four.below {B : Nat} {w w' : World} {b : Nat} {v0 v1 v2 v3 : Value} (h : Four w b v0 v1 v2 v3) (hb : Below B w w') (hB : b < B) : Four w' b v0 v1 v2 v3 := by
  obtain ⟨⟨a0, a1, a2, a3⟩, f0, f1, f2, f3⟩ := h
  exact ⟨⟨(hb.cell (p := ⟨b, 0, none⟩) hB).trans a0, (hb.cell (p := ⟨b, 1, none⟩) hB).trans a1, (hb.cell (p := ⟨b, 2, none⟩) hB).trans a2, (hb.cell (p := ⟨b, 3, none⟩) hB).trans a3⟩, (hb.frozen (p := ⟨b, 0, none⟩) hB).trans f0, (hb.frozen (p := ⟨b, 1, none⟩) hB).trans f1, (hb.frozen (p := ⟨b, 2, none⟩) hB).trans f2, (hb.frozen (p := ⟨b, 3, none⟩) hB).trans f3⟩
theorem Four.drew {w : World} {b : Nat} {v0 v1 v2 v3 : Value} (h : Four w b v0 v1 v2 v3) : Four w.drew b v0 v1 v2 v3 := h.below ((Below.refl _ _).drew) h.lt
theorem len_or {w : World} {F : Fo} {a : Option Addr} (h : F.In w a) : F.len = 0 ∨ ∃ b o, a = some ⟨b, o, none⟩ := by
  rcases h with rfl | ⟨b, o, e, _⟩
  · exact .inl rfl
  · exact .inr ⟨b, o, e⟩
/-- a pair in its box -/
abbrev Ten (pb : Nat) (xk : Int) (xt : ByteArray) (xm xe : Int) (sx : Value) (yk : Int) (yt : ByteArray) (ym ye : Int) (sy : Value) (w : World) : Prop :=
  (w.cell? ⟨pb, 0, none⟩ = some (.int .i64 xk) ∧ w.cell? ⟨pb, 1, none⟩ = some (.string xt) ∧ w.cell? ⟨pb, 2, none⟩ = some (.int .i64 xm) ∧ w.cell? ⟨pb, 3, none⟩ = some (.int .i64 xe) ∧ w.cell? ⟨pb, 4, none⟩ = some sx) ∧
  (w.cell? ⟨pb, 5, none⟩ = some (.int .i64 yk) ∧ w.cell? ⟨pb, 6, none⟩ = some (.string yt) ∧ w.cell? ⟨pb, 7, none⟩ = some (.int .i64 ym) ∧ w.cell? ⟨pb, 8, none⟩ = some (.int .i64 ye) ∧ w.cell? ⟨pb, 9, none⟩ = some sy)
theorem Ten.same {w w' : World} {pb : Nat} {xk : Int} {xt : ByteArray} {xm xe : Int} {sx : Value} {yk : Int} {yt : ByteArray} {ym ye : Int} {sy : Value} (h : Ten pb xk xt xm xe sx yk yt ym ye sy w) (hb : w'.heap[pb]? = w.heap[pb]?) : Ten pb xk xt xm xe sx yk yt ym ye sy w' := by
  have c : ∀ o, w'.cell? ⟨pb, o, none⟩ = w.cell? ⟨pb, o, none⟩ := fun o => World.cell?_of_block (a := ⟨pb, o, none⟩) hb
  obtain ⟨⟨a0, a1, a2, a3, a4⟩, a5, a6, a7, a8, a9⟩ := h
  exact ⟨⟨(c 0).trans a0, (c 1).trans a1, (c 2).trans a2, (c 3).trans a3, (c 4).trans a4⟩, (c 5).trans a5, (c 6).trans a6, (c 7).trans a7, (c 8).trans a8, (c 9).trans a9⟩
theorem Ten.lt {w : World} {pb : Nat} {xk : Int} {xt : ByteArray} {xm xe : Int} {sx : Value} {yk : Int} {yt : ByteArray} {ym ye : Int} {sy : Value} (h : Ten pb xk xt xm xe sx yk yt ym ye sy w) : pb < w.heap.size := World.block_lt_of_cell? _ _ h.1.1
/-- a pair in its box, and nothing old changed -/
abbrev HeldA (W : World) (pb : Nat) (xk : Int) (xt : ByteArray) (xm xe : Int) (sx : Value) (yk : Int) (yt : ByteArray) (ym ye : Int) (sy : Value) (w : World) : Prop :=
  Ten pb xk xt xm xe sx yk yt ym ye sy w ∧ Below W.heap.size W w
end Go.Proofs.Ytpgpkdeiapeoiaa
/- Two values that are the same, by the program: the region that makes the pair of places of two lists. -/
namespace Go.Proofs.Ytpgpkdeiapeoiaa
open Go.RowKit
theorem len_orV {w : World} {F : Vo} {a : Option Addr} (h : F.In w a) : F.len = 0 ∨ ∃ b o, a = some ⟨b, o, none⟩ := by
  rcases h with rfl | ⟨b, o, e, _⟩
  · exact .inl rfl
  · exact .inr ⟨b, o, e⟩
/-- a pair in its box -/
abbrev TwoV (pb : Nat) (x : Hd) (sx : Value) (y : Hd) (sy : Value) (w : World) : Prop :=
  (w.cell? ⟨pb, 0, none⟩ = some (.int .i64 x.k) ∧ w.cell? ⟨pb, 1, none⟩ = some (.int .i64 x.m) ∧ w.cell? ⟨pb, 2, none⟩ = some (.int .i64 x.e) ∧ w.cell? ⟨pb, 3, none⟩ = some (.string x.t) ∧ w.cell? ⟨pb, 4, none⟩ = some sx ∧ w.cell? ⟨pb, 5, none⟩ = some (.slice x.na x.ns.length x.nc)) ∧
  (w.cell? ⟨pb, 6, none⟩ = some (.int .i64 y.k) ∧ w.cell? ⟨pb, 7, none⟩ = some (.int .i64 y.m) ∧ w.cell? ⟨pb, 8, none⟩ = some (.int .i64 y.e) ∧ w.cell? ⟨pb, 9, none⟩ = some (.string y.t) ∧ w.cell? ⟨pb, 10, none⟩ = some sy ∧ w.cell? ⟨pb, 11, none⟩ = some (.slice y.na y.ns.length y.nc))
theorem TwoV.same {w w' : World} {pb : Nat} {x y : Hd} {sx sy : Value} (h : TwoV pb x sx y sy w) (hb : w'.heap[pb]? = w.heap[pb]?) : TwoV pb x sx y sy w' := by
  have c : ∀ o, w'.cell? ⟨pb, o, none⟩ = w.cell? ⟨pb, o, none⟩ := fun o => World.cell?_of_block (a := ⟨pb, o, none⟩) hb
  obtain ⟨⟨a0, a1, a2, a3, a4, a5⟩, a6, a7, a8, a9, a10, a11⟩ := h
  exact ⟨⟨(c 0).trans a0, (c 1).trans a1, (c 2).trans a2, (c 3).trans a3, (c 4).trans a4, (c 5).trans a5⟩, (c 6).trans a6, (c 7).trans a7, (c 8).trans a8, (c 9).trans a9, (c 10).trans a10, (c 11).trans a11⟩
theorem TwoV.lt {w : World} {pb : Nat} {x y : Hd} {sx sy : Value} (h : TwoV pb x sx y sy w) : pb < w.heap.size := World.block_lt_of_cell? _ _ h.1.1
/-- a pair in its box, and nothing old changed -/
abbrev HeldB (W : World) (pb : Nat) (x : Hd) (sx : Value) (y : Hd) (sy : Value) (w : World) : Prop :=
  TwoV pb x sx y sy w ∧ Below W.heap.size W w
end Go.Proofs.Ytpgpkdeiapeoiaa
/- Two trees that are the same, by the program: the region that puts the pairs of two lists behind what is to be done. -/
namespace Go.Proofs.Ytpgpkdeiapeoiaa
open Go.RowKit
section
variable {P : Program}
theorem append_none_own (w : World) (base base2 : Nat) (t ty e : TypeId) (i : TypeInfo) (size : Nat) (ht : P.underlying t = some (.slice e)) (hi : P.info? e = some i)
    (v : Value) (n : Nat) (xs : List Value) (hown : w.ownsRow base e size v n xs) (v2 : Value) (ys : List Value) (hown2 : w.ownsRow base2 e size v2 0 ys) :
    (Builtin.append_ #[t, t] ty #[v, v2]).run P w = .ok v w := by
  rcases hown2.2 with ⟨rfl, _⟩ | ⟨g2, cap2, cur2, rfl, _⟩
  · exact run_append_owned_none w base t ty e i size ht hi v n xs hown
  · rcases hown.2 with ⟨rfl, rfl⟩ | ⟨g, cap, cur, rfl, _, _, hnc, _⟩
    · simp [Builtin.append_, run_underlying ht, sizeOf, typeInfo, hi, Builtin.lenOf, Builtin.firstCells, loadCells, loadCellsFrom]
    · simp [Builtin.append_, run_underlying ht, sizeOf, typeInfo, hi, Builtin.lenOf, Builtin.firstCells, loadCells, loadCellsFrom, hnc, storeCells]
/-- a slice that is owned behind another one -/
theorem append_two (w : World) (base base2 : Nat) (t ty e : TypeId) (i : TypeInfo) (z : Value) (size bytes : Nat) (ht : P.underlying t = some (.slice e)) (hi : P.info? e = some i) (hz : i.zero = some z)
    (hsize : i.size = size) (hby : i.bytes = bytes) (hzs : z.cells.size = size) (hsz : 0 < size)
    (v : Value) (n : Nat) (xs : List Value) (hown : w.ownsRow base e size v n xs) (v2 : Value) (m : Nat) (ys : List Value) (hown2 : w.ownsRow base2 e size v2 m ys)
    (h1 : ∀ u ∈ ys, u.oneCell' = true) (h63 : n + m ≤ maxLen) (hbytes : (n + m) * bytes ≤ 140737488355328) (hbase : base ≤ w.heap.size) :
    ∃ v' w', (Builtin.append_ #[t, t] ty #[v, v2]).run P w = .ok v' w' ∧ w'.ownsRow base e size v' (n + m) (xs ++ ys) ∧ w.grownBy w' v.ownBlock := by
  rcases Nat.eq_zero_or_pos m with rfl | hm
  · have hy : ys = [] := List.eq_nil_of_length_eq_zero (by rw [hown2.1, Nat.zero_mul])
    subst hy
    exact ⟨v, w, append_none_own w base base2 t ty e i size ht hi v n xs hown v2 [] hown2, by simpa using hown, ⟨rfl, rfl, rfl, Nat.le_refl _, fun _ _ _ => rfl⟩⟩
  · obtain ⟨g, cap, rfl, _, _⟩ := hown2.form hm
    obtain ⟨g', cap', w', hr, ho, hg, _⟩ := run_append_lies (P := P) w t ty base e i z size bytes ht hi hz hsize hby hzs hsz v n xs hown ⟨g, 0, none⟩ m cap ys hown2.1 (fun j u hj => by
      have hjl : j < m * size := by rw [← hown2.1]; exact (List.getElem?_eq_some_iff.1 hj).1
      have := hown2.cellAt j hjl
      rw [hj] at this
      simp [Addr.add]
      by_cases h0 : j = 0
      · subst h0; simpa using this
      · simpa [h0] using this) h1 hm h63 hbytes hbase _ rfl
    exact ⟨_, w', hr, ho, hg⟩
theorem wp_append_two {o : Oper} {a : Act} {K : Act → World → Prop} {Q : Exit → Act → World → Prop} (w : World) (s x : Operand) (t : TypeId)
    (ho : o.op = .call { callee := .builtin .append, args := #[s, x], argTypes := #[t, t] })
    (base base2 : Nat) (e : TypeId) (i : TypeInfo) (z : Value) (size bytes : Nat) (ht : P.underlying t = some (.slice e)) (hi : P.info? e = some i) (hz : i.zero = some z)
    (hsize : i.size = size) (hby : i.bytes = bytes) (hzs : z.cells.size = size) (hsz : 0 < size)
    (v : Value) (n : Nat) (xs : List Value) (hs : a.eval s = v) (hown : w.ownsRow base e size v n xs) (v2 : Value) (m : Nat) (ys : List Value) (hx : a.eval x = v2) (hown2 : w.ownsRow base2 e size v2 m ys)
    (h1 : ∀ u ∈ ys, u.oneCell' = true) (h63 : n + m ≤ maxLen) (hbytes : (n + m) * bytes ≤ 140737488355328) (hbase : base ≤ w.heap.size)
    (h : ∀ v' w', w'.ownsRow base e size v' (n + m) (xs ++ ys) → w.grownBy w' v.ownBlock → K (a.put o.dst v') w') : o.wp P a w K Q := by
  obtain ⟨v', w', hr, h2, h3⟩ := append_two (P := P) w base base2 t o.type e i z size bytes ht hi hz hsize hby hzs hsz v n xs hown v2 m ys hown2 h1 h63 hbytes hbase
  unfold Oper.wp execOp
  simp only [ho, resolve, invoke, builtin, Sem.run_bind, Sem.run_pure, Result.andThen_ok, List.map_toArray, List.map_cons, List.map_nil, hs, hx, hr]
  exact h v' w' h2 h3
end
theorem ob_or (v : Value) : v.ownBlock = none ∨ v.ownBlock ≠ none := by
  cases h : v.ownBlock with
  | none => exact .inl rfl
  | some b => exact .inr (fun e => by cases e)
theorem pairCells_one (F G : Fo) (n : Nat) : ∀ u ∈ pairCells F G n, u.oneCell' = true := by
  induction n with
  | zero => intro u hu; cases hu
  | succ n ih =>
    intro u hu
    rcases List.mem_append.1 (show u ∈ pairCells F G n ++ (F.cellsAt n ++ G.cellsAt n) from hu) with h | h
    · exact ih u h
    · simp [Fo.cellsAt] at h
      rcases h with h | h | h | h | h | h | h | h | h | h <;> subst h <;> rfl
end Go.Proofs.Ytpgpkdeiapeoiaa
/- Two values that are the same, by the program: the region that puts the pairs of two lists behind what is to be done. -/
namespace Go.Proofs.Ytpgpkdeiapeoiaa
open Go.RowKit
end Go.Proofs.Ytpgpkdeiapeoiaa
/- Two values that are the same, by the program: the loop walked. -/
namespace Go.Proofs.Ytpgpkdeiapeoiaa
open Go.RowKit
end Go.Proofs.Ytpgpkdeiapeoiaa
/- Contracts over values: the laws' own measure. -/
namespace Go.Proofs.Ytpgpkdeiapeoiaa
open Go.RowKit
set_option maxHeartbeats 1000000 in
theorem szValueS_step (N : Nat) (H : ∀ (h : Hd) (a : Option Addr) (c : Nat) (F : Vo) (w : World) (l : Nat), F.size < N → F.In w a → F.len ≤ c → c ≤ maxLen → h.In w → l ≤ 1048576 →
      Calls Try.prog 7 #[valV h a F.len c, .int .i64 l] w fun e w' => e = .returned (.int .i64 (leftOf (h.t.size + F.wt + sWt h.ns) l)) ∧ Below w.heap.size w w') :
    ∀ (a : Option Addr) (c : Nat) (F : Vo) (w : World) (l : Nat), F.size ≤ N → F.In w a → F.len ≤ c → c ≤ maxLen → l ≤ 1048576 →
      Calls Try.prog 18 #[.slice a F.len c, .int .i64 l] w fun e w' => e = .returned (.int .i64 (leftOf F.wt l)) ∧ Below w.heap.size w w' := by
  intro a c F w l hF hin hl hc hl2
  unfold maxLen at hc
  have hlw := F.len_wt
  by_cases h0 : F.len ≤ l
  · have h0' : ¬ (l : Int) - (F.len : Int) < 0 := by omega
    go_enter Try.func18, Try.ntmps18
    go_wp2_with fail
    go_loopw [1, 5] (fun o i wr => ∃ (j d : Nat) (G : Vo), i = .int .i64 j ∧ o = .int .i64 d ∧ j + G.len = F.len ∧ d + F.wt + G.len = l + G.wt ∧ d ≤ l ∧ G.size ≤ F.size ∧ (G = .nil ∨ ∃ b o', a = some ⟨b, o', none⟩ ∧ G.From wr b (o' + j * 6)) ∧ Below w.heap.size w wr) (fun _ i _ => F.len - (intOf i).toNat)
    case atStart =>
      refine ⟨0, l - F.len, F, rfl, by congr 1; omega, by omega, by omega, by omega, Nat.le_refl _, ?_, Below.refl _ _⟩
      rcases hin with h | ⟨b, o', e1, e2⟩
      · exact .inl h
      · exact .inr ⟨b, o', e1, by simpa using e2⟩
    case round =>
      obtain ⟨j, d, G, rfl, rfl, hj, hs, hs1, hs2, hG, hb⟩ := hrel
      cases G with
      | nil =>
        have hj' : j = F.len := by simpa [Vo.len] using hj
        have hs' : d + F.wt = l := by simpa [Vo.len, Vo.wt] using hs
        have HL : Hid (leftOf F.wt l = (d : Int)) := by unfold Hid leftOf; rw [if_pos (by omega)]; congr 1; omega
        subst hj'
        clear hG hj hs hs' H
        go_wp2_with fail
        go_ret
        exact ⟨by rw [HL.out]; rfl, hb⟩
      | cons h a' c' kids next =>
        rcases hG with hG | ⟨b, o', rfl, ⟨h1, h2, h3, h4, h5, h6⟩, hk, ⟨hc1, hc2⟩, hh, hn⟩
        · cases hG
        · have hln : j + (next.len + 1) = F.len := hj
          have hlt : (j : Int) < (F.len : Int) := by omega
          have hjl : j < F.len := by omega
          have hsz : kids.size + 1 + next.size ≤ F.size := hs2
          have hwt : d + F.wt + (next.len + 1) = l + (h.t.size + kids.wt + sWt h.ns + 1 + next.wt) := hs
          have hnw := next.len_wt
          clear hj hs hin hs2
          go_wp2_with fail
          refine (H h a' c' kids wr d (by omega) hk hc1 hc2 hh (by omega)).mono ?_
          rintro e w1 ⟨rfl, hb1⟩
          have hn1 := Vo.from_grow hb1 next b _ hn
          have hb2 := hb.trans (hb1.mono hb.size)
          clear h1 h2 h3 h4 h5 h6 hk hn hb1 hb H hh
          by_cases hd : h.t.size + kids.wt + sWt h.ns ≤ d
          · have HL : Hid (leftOf (h.t.size + kids.wt + sWt h.ns) d = ((d - (h.t.size + kids.wt + sWt h.ns) : Nat) : Int)) := by unfold Hid leftOf; rw [if_pos hd]
            rw [HL.out]
            obtain ⟨d', hd'⟩ : ∃ d', d' = d - (h.t.size + kids.wt + sWt h.ns) := ⟨_, rfl⟩
            rw [← hd']
            have hd2 : d' + (h.t.size + kids.wt + sWt h.ns) = d := by omega
            clear hd' HL hd
            have hd0 : ¬ (d' : Int) < 0 := by omega
            go_wp2_with fail
            go_round
            case rel =>
              refine ⟨j + 1, d', next, by go_num, rfl, by omega, by omega, by omega, by omega, .inr ⟨b, o', rfl, ?_⟩, hb2⟩
              rw [show o' + (j + 1) * 6 = o' + j * 6 + 6 by omega]; exact hn1
            case measure => simp [intOf]; omega
          · have HL : Hid (leftOf (h.t.size + kids.wt + sWt h.ns) d = -1) := by unfold Hid leftOf; rw [if_neg hd]
            have HR : Hid (leftOf F.wt l = -1) := by unfold Hid leftOf; rw [if_neg (by omega)]
            rw [HL.out]
            clear HL hd
            go_wp2_with fail
            go_ret
            exact ⟨by rw [HR.out]; rfl, hb2⟩
  · have h0' : (l : Int) - (F.len : Int) < 0 := by omega
    have HL : Hid (leftOf F.wt l = -1) := by unfold Hid leftOf; rw [if_neg (by omega)]
    rw [HL.out]
    clear H
    go_enter Try.func18, Try.ntmps18
    go_wp2_with fail
    go_ret
    exact ⟨rfl, Below.refl _ _⟩
theorem left_neg {n l : Nat} (h : ¬ n ≤ l) : leftOf n l = -1 := by unfold leftOf; rw [if_neg h]
theorem left_pos {n l : Nat} (h : n ≤ l) : leftOf n l = ((l - n : Nat) : Int) := by unfold leftOf; rw [if_pos h]
set_option maxHeartbeats 1000000 in
theorem szValue_step (N : Nat) (H : ∀ (a : Option Addr) (c : Nat) (F : Vo) (w : World) (l : Nat), F.size ≤ N → F.In w a → F.len ≤ c → c ≤ maxLen → l ≤ 1048576 →
      Calls Try.prog 18 #[.slice a F.len c, .int .i64 l] w fun e w' => e = .returned (.int .i64 (leftOf F.wt l)) ∧ Below w.heap.size w w') :
    ∀ (h : Hd) (a : Option Addr) (c : Nat) (F : Vo) (w : World) (l : Nat), F.size ≤ N → F.In w a → F.len ≤ c → c ≤ maxLen → h.In w → l ≤ 1048576 →
      Calls Try.prog 7 #[valV h a F.len c, .int .i64 l] w fun e w' => e = .returned (.int .i64 (leftOf (h.t.size + F.wt + sWt h.ns) l)) ∧ Below w.heap.size w w' := by
  intro h a c F w l hF hin hl hc hh hl2
  have hcc := hc
  have ht := hh.2.2
  unfold maxLen at hc ht
  by_cases h0 : h.t.size ≤ l
  · have h0' : ¬ (l : Int) - (h.t.size : Int) < 0 := by omega
    go_enter Try.func7, Try.ntmps7
    go_wp2_with fail
    rw [show (l : Int) - (h.t.size : Int) = ((l - h.t.size : Nat) : Int) by omega]
    have hb0 : Below w.heap.size w (w.alloc (.cells #[.int .i64 h.k, .int .i64 h.m, .int .i64 h.e, .string h.t, .slice a F.len c, .slice h.na h.ns.length h.nc] 27)) := (Below.refl _ w).alloc (Nat.le_refl _) _
    have hr0 := Row.new w [.int .i64 h.k, .int .i64 h.m, .int .i64 h.e, .string h.t, .slice a F.len c, .slice h.na h.ns.length h.nc] 27
    refine (H a c F _ (l - h.t.size) hF (hin.grow hb0) hl hcc (by omega)).mono ?_
    rintro e w1 ⟨rfl, hb1⟩
    have hb2 : Below w.heap.size w w1 := hb0.trans (hb1.mono (by simp))
    have x5 := (hr0.below hb1 (by simp) 5 _ rfl).1
    have hh1 := hh.grow hb2
    clear hb0 hb1 H hin hr0 hh
    by_cases hd : h.t.size + F.wt ≤ l
    · have HL : Hid (leftOf F.wt (l - h.t.size) = ((l - (h.t.size + F.wt) : Nat) : Int)) := by unfold Hid; rw [left_pos (by omega)]; congr 1; omega
      rw [HL.out]
      obtain ⟨d', hd'⟩ : ∃ d', d' = l - (h.t.size + F.wt) := ⟨_, rfl⟩
      rw [← hd']
      have hd0 : ¬ (d' : Int) < 0 := by omega
      have hd1 : d' ≤ 1048576 := by omega
      have HD : Hid (d' + (h.t.size + F.wt) = l) := by unfold Hid; omega
      clear HL hd' hd
      go_wp2_with fail
      refine (szStringS_any h.ns h.na h.nc w1 d' hh1.1 hh1.2.1.1 hh1.2.1.2 hd1).mono ?_
      rintro e w2 ⟨rfl, hb3⟩
      have hb4 := hb2.trans (hb3.mono hb2.size)
      clear hb3 hb2 x5 hh1
      by_cases hd3 : sWt h.ns ≤ d'
      · have HL : Hid (leftOf (sWt h.ns) d' = ((d' - sWt h.ns : Nat) : Int)) := left_pos hd3
        have HR : Hid (leftOf (h.t.size + F.wt + sWt h.ns) l = ((d' - sWt h.ns : Nat) : Int)) := by unfold Hid; have := HD.out; rw [left_pos (by omega)]; congr 1; omega
        rw [HL.out]
        obtain ⟨d2, hd2⟩ : ∃ d2, d2 = d' - sWt h.ns := ⟨_, rfl⟩
        rw [← hd2] at HR ⊢
        have hd20 : ¬ (d2 : Int) < 0 := by omega
        clear HL hd3 hd2
        go_wp2_with fail
        go_ret
        exact ⟨by rw [HR.out]; rfl, hb4⟩
      · have HL : Hid (leftOf (sWt h.ns) d' = -1) := left_neg hd3
        have HR : Hid (leftOf (h.t.size + F.wt + sWt h.ns) l = -1) := left_neg (by have := HD.out; omega)
        rw [HL.out]
        clear HL hd3
        go_wp2_with fail
        go_ret
        exact ⟨by rw [HR.out]; rfl, hb4⟩
    · have HL : Hid (leftOf F.wt (l - h.t.size) = -1) := left_neg (by omega)
      have HR : Hid (leftOf (h.t.size + F.wt + sWt h.ns) l = -1) := left_neg (by omega)
      rw [HL.out]
      clear HL hd
      go_wp2_with fail
      go_ret
      exact ⟨by rw [HR.out]; rfl, hb2⟩
  · have h0' : (l : Int) - (h.t.size : Int) < 0 := by omega
    have HL : Hid (leftOf (h.t.size + F.wt + sWt h.ns) l = -1) := left_neg (by omega)
    rw [HL.out]
    clear H
    go_enter Try.func7, Try.ntmps7
    go_wp2_with fail
    go_ret
    exact ⟨rfl, (Below.refl _ _).alloc (Nat.le_refl _) _⟩
theorem szValue_all (N : Nat) : ∀ (h : Hd) (a : Option Addr) (c : Nat) (F : Vo) (w : World) (l : Nat), F.size < N → F.In w a → F.len ≤ c → c ≤ maxLen → h.In w → l ≤ 1048576 →
      Calls Try.prog 7 #[valV h a F.len c, .int .i64 l] w fun e w' => e = .returned (.int .i64 (leftOf (h.t.size + F.wt + sWt h.ns) l)) ∧ Below w.heap.size w w' := by
  induction N with
  | zero => intro h a c F w l hF; omega
  | succ N ih => exact fun h a c F w l hF => szValue_step N (szValueS_step N ih) h a c F w l (by omega)
/-- the laws' measure of a value -/
theorem szValue_any (h : Hd) (a : Option Addr) (c : Nat) (F : Vo) (w : World) (l : Nat) (h1 : F.In w a) (h2 : F.len ≤ c) (h3 : c ≤ maxLen) (h4 : h.In w) (h5 : l ≤ 1048576) :
      Calls Try.prog 7 #[valV h a F.len c, .int .i64 l] w fun e w' => e = .returned (.int .i64 (leftOf (h.t.size + F.wt + sWt h.ns) l)) ∧ Below w.heap.size w w' :=
  szValue_all (F.size + 1) h a c F w l (by omega) h1 h2 h3 h4 h5
end Go.Proofs.Ytpgpkdeiapeoiaa
/- Two values that are the same: ValueSame of the program, and copies that can be held against each other. -/
namespace Go.Proofs.Ytpgpkdeiapeoiaa
open Go.RowKit
theorem Vo.Cl.below {w w' : World} (hb : Below w.heap.size w w') : ∀ {F : Vo}, F.Cl w → F.Cl w' := by
  intro F
  induction F with
  | nil => intro _; trivial
  | cons h a c kids next ih1 ih2 => rintro ⟨h1, h2, h3⟩; exact ⟨h1.below hb, ih1 h2, ih2 h3⟩
theorem ItV.Good.below {w w' : World} {x : ItV} (h : x.Good w) (hb : Below w.heap.size w w') : x.Good w' := ⟨h.1.below hb, h.2.below hb⟩
/-- a copy of a value, in new memory that is not frozen -/
def CopiedV (w' : World) (h : Hd) (F : Vo) (r : Ending) : Prop :=
  ∃ (nb n2 : Nat) (F' : Vo), r = .returned (valV (h.to n2) (some ⟨nb, 0, none⟩) F'.len F'.len) ∧ F'.alike F ∧ F'.From w' nb 0 ∧ (h.to n2).In w' ∧ ItV.Good w' ⟨h.to n2, some ⟨nb, 0, none⟩, F', F'.len⟩
theorem toValue_any (h : Hd) (a : Option Addr) (c : Nat) (F : Vo) (w : World) (h0 : F.wt ≤ 1048576) (h0n : h.ns.length ≤ 1048576) (h1 : F.In w a) (h2 : F.len ≤ c) (h3 : c ≤ maxLen) (h4 : h.In w) :
      Calls Try.prog 9 #[valV h a F.len c] w fun r w' => CopiedV w' h F r ∧ Below w.heap.size w w' := by
  have hsw := F.size_wt
  refine (toValue_all (F.size + 1) h a c F w (by omega) (by omega) (F.few_wt 1100000 (by omega)) (by omega) h1 h2 h3 h4).mono ?_
  rintro r w' ⟨⟨nb, n2, F', hr, ⟨hn, hn2⟩, ha, hk, hF, hS, hc⟩, hb⟩
  exact ⟨⟨nb, n2, F', hr, ha, hF, ⟨.inr ⟨n2, 0, rfl, hS⟩, ⟨Nat.le_refl _, Nat.le_trans h4.2.1.1 h4.2.1.2⟩, h4.2.2⟩, plOk_ofV hc hn hF, Vo.cl_of hc F' _ _ hF hk⟩, hb⟩
/-- copies are the same just if what they were made of is -/
theorem same2_copyV {h g : Hd} {m n : Nat} {a a2 b b2 : Option Addr} {F G F1 G1 : Vo} {c c2 d d2 : Nat} (h1 : F1.alike F) (h2 : G1.alike G) :
    same2V (⟨h.to m, a, F1, c⟩, ⟨g.to n, a2, G1, c2⟩) ↔ same2V (⟨h, b, F, d⟩, ⟨g, b2, G, d2⟩) := by
  constructor
  · rintro ⟨hh, h3⟩; exact ⟨hh, Vo.alike_trans (Vo.alike_sym h1) (Vo.alike_trans h3 h2)⟩
  · rintro ⟨hh, h3⟩; exact ⟨hh, Vo.alike_trans h1 (Vo.alike_trans h3 (Vo.alike_sym h2))⟩
/-- a value in its box -/
abbrev BxV (b : Nat) (h : Hd) (s : Value) (w : World) : Prop := w.cell? ⟨b, 0, none⟩ = some (.int .i64 h.k) ∧ w.cell? ⟨b, 1, none⟩ = some (.int .i64 h.m) ∧ w.cell? ⟨b, 2, none⟩ = some (.int .i64 h.e) ∧ w.cell? ⟨b, 3, none⟩ = some (.string h.t) ∧ w.cell? ⟨b, 4, none⟩ = some s ∧ w.cell? ⟨b, 5, none⟩ = some (.slice h.na h.ns.length h.nc)
theorem BxV.below {b : Nat} {h : Hd} {s : Value} {w w' : World} (x : BxV b h s w) (hb : Below w.heap.size w w') : BxV b h s w' := by
  have hl : b < w.heap.size := World.block_lt_of_cell? _ _ x.1
  obtain ⟨h0, h1, h2, h3, h4, h5⟩ := x
  exact ⟨(hb.cell (p := ⟨b, 0, none⟩) hl).trans h0, (hb.cell (p := ⟨b, 1, none⟩) hl).trans h1, (hb.cell (p := ⟨b, 2, none⟩) hl).trans h2, (hb.cell (p := ⟨b, 3, none⟩) hl).trans h3, (hb.cell (p := ⟨b, 4, none⟩) hl).trans h4, (hb.cell (p := ⟨b, 5, none⟩) hl).trans h5⟩
theorem BxV.new (w : World) (h : Hd) (s : Value) (T : TypeId) : BxV w.heap.size h s (w.alloc (.cells #[.int .i64 h.k, .int .i64 h.m, .int .i64 h.e, .string h.t, s, .slice h.na h.ns.length h.nc] T)) := by
  refine ⟨?_, ?_, ?_, ?_, ?_, ?_⟩ <;> simp
end Go.Proofs.Ytpgpkdeiapeoiaa
