/- My own texts, joined: Lb Lc Eb Ld Lm Lp Lq Ln Lg Lk Ec. -/
import Derived.Test.YtmghhcdhjjhbeaaJImports4
import Derived.Shelf.Spec.SearchS
import Derived.Shelf.Spec.SlicesInsertGrow
import Derived.Test.YtmghhcdhjjhbeaaProg
import Derived.Lib.LazyBuf
import Derived.Deep.OwnRows
import Derived.Laws.IdiomStrings
import Derived.Test.YtmghhcdhjjhbeaaJImports3
import Derived.Deep.RegionHeld3
import Derived.Test.YtmghhcdhjjhbeaaJImports1
import Derived.RangeFuncNested
import Derived.RangeFuncBound
import Derived.RangeFuncCalls
import Derived.RangeFuncLeaves
import Derived.RangeFuncFrom
import Derived.RangeFuncBox
import Derived.Shelf.Abstract
import Derived.Shelf.RegionOpen
import Derived.WalkKit
import Derived.OwnWalkIn
import Derived.TacticsInMore
import Derived.LoopNIn
import Derived.LoopIn
import Derived.Test.YtmghhcdhjjhbeaaJImports0
import Derived.Shelf.Pu.Clone
/- A text put among others, by the specification: l6Put. -/
namespace Go.Proofs.Ytmghhcdhjjhbeaa
open Go.RowKit
attribute [local go_sem] cell_alloc_is frozen_alloc_is
/-- it stands where it belongs -/
def hasAt (s : ByteArray) (ss : List ByteArray) : Bool := match ss[plc s ss]? with
  | some x => x.toList == s.toList
  | none => false
/-- a text among others, ascending, once -/
def put1 (s : ByteArray) (ss : List ByteArray) : List ByteArray := if hasAt s ss = true then ss else insN s ss
theorem hasAt_some {s x : ByteArray} {ss : List ByteArray} (h : ss[plc s ss]? = some x) : hasAt s ss = (x.toList == s.toList) := by
  unfold hasAt; rw [h]
theorem put1_old {s x : ByteArray} {ss : List ByteArray} (h : ss[plc s ss]? = some x) (hq : (x.toList == s.toList) = true) : put1 s ss = ss := by
  unfold put1; rw [hasAt_some h]; exact if_pos hq
theorem put1_new {s : ByteArray} {ss : List ByteArray} (h : ∀ x, ss[plc s ss]? = some x → (x.toList == s.toList) = false) : put1 s ss = insN s ss := by
  unfold put1
  cases e : ss[plc s ss]? with
  | none => exact if_neg (by unfold hasAt; rw [e]; simp)
  | some x => exact if_neg (by rw [hasAt_some e, h x e]; simp)
theorem insN_len (s : ByteArray) (ss : List ByteArray) : (insN s ss).length = ss.length + 1 := by
  have := plc_le s ss
  unfold insN
  rw [List.length_append, List.length_cons, List.length_take, List.length_drop]; omega
theorem put1_len (s : ByteArray) (ss : List ByteArray) : (put1 s ss).length ≤ ss.length + 1 := by
  unfold put1
  split
  · omega
  · rw [insN_len]; omega
theorem put1_mem {s x : ByteArray} {ss : List ByteArray} (h : x ∈ put1 s ss) : x = s ∨ x ∈ ss := by
  unfold put1 at h
  split at h
  · exact .inr h
  · unfold insN at h
    rcases List.mem_append.1 h with h | h
    · exact .inr (List.mem_of_mem_take h)
    · rcases List.mem_cons.1 h with h | h
      · exact .inl h
      · exact .inr (List.mem_of_mem_drop h)
theorem insN_texts (s : ByteArray) (ss : List ByteArray) : texts (insN s ss) = (texts ss).take (plc s ss * 1) ++ ([Value.string s] ++ (texts ss).drop (plc s ss * 1)) := by
  unfold texts insN
  rw [List.map_append, List.map_cons, List.map_take, List.map_drop, Nat.mul_one]; rfl
set_option maxHeartbeats 1000000 in
theorem l6Put_any (ss : List ByteArray) (a : Option Addr) (c : Nat) (s : ByteArray) (w : World) (hs : SIn w ss a) (hc : ss.length ≤ c ∧ c ≤ maxLen) (hn : ss.length ≤ 1100000) (ht : s.size ≤ maxLen) :
    Calls Try.prog 83 #[.slice a ss.length c, .string s] w fun e w' => (∃ a' c', e = .returned (.slice a' (put1 s ss).length c') ∧ SIn w' (put1 s ss) a' ∧ ((put1 s ss).length ≤ c' ∧ c' ≤ maxLen)) ∧ Below w.heap.size w w' := by
  have HS : Hid (SIn w ss a) := hs
  have hcm : c ≤ 2 ^ 63 - 1 := hc.2
  have hcl := hc.1
  go_enter Try.func83, Try.ntmps83
  go_wp2_with fail
  go_loop [5] (fun i => ∃ k : Nat, k ≤ ss.length ∧ i = .int .i64 k ∧ plc s ss = k + plc s (ss.drop k)) (fun i => ss.length - (intOf i).toNat)
  case atStart => exact ⟨0, Nat.zero_le _, rfl, by simp⟩
  case round =>
    obtain ⟨k, hk, rfl, hr⟩ := hrel
    have HR : Hid (plc s ss = k + plc s (ss.drop k)) := hr
    clear hr
    have hend : (∃ b o x, a = some ⟨b, o, none⟩ ∧ k < ss.length ∧ ss[k]? = some x ∧ w.cell? ⟨b, o + k, none⟩ = some (.string x) ∧ Op.bytesLess x.toList s.toList = true) ∨
        (∃ b o x, a = some ⟨b, o, none⟩ ∧ (k : Int) < (ss.length : Int) ∧ Hid (ss[k]? = some x) ∧ w.cell? ⟨b, o + k, none⟩ = some (.string x) ∧ Op.bytesLess x.toList s.toList = false ∧ Hid (plc s ss = k)) ∨ (¬ (k : Int) < (ss.length : Int) ∧ Hid (ss[k]? = none) ∧ Hid (plc s ss = k)) := by
      by_cases hlt : k < ss.length
      · rcases hs with h0 | ⟨b, o, e, hs⟩
        · rw [h0] at hlt; exact absurd hlt (Nat.not_lt_zero _)
        · have e3 := List.getElem?_eq_getElem hlt
          have e4 := (hs.at (List.getElem?_eq_getElem hlt)).1
          cases hq : Op.bytesLess ss[k].toList s.toList
          · exact .inr (.inl ⟨b, o, ss[k], e, by omega, e3, e4, hq, (plc_at HR.out _ e3).2 hq⟩)
          · exact .inl ⟨b, o, ss[k], e, hlt, e3, e4, hq⟩
      · refine .inr (.inr ⟨by omega, List.getElem?_eq_none (by omega), ?_⟩)
        have e : k = ss.length := by omega
        unfold Hid
        rw [HR.out, e, List.drop_length]; rfl
    clear hs
    rcases hend with ⟨b, o, x, rfl, e2, e3, e4, hq⟩ | ⟨b, o, x, rfl, e2, e3, e4, hq, HP⟩ | ⟨e2, e3, HP⟩
    · have e2' : (k : Int) < (ss.length : Int) := by omega
      have HP : Hid (plc s ss = k + 1 + plc s (ss.drop (k + 1))) := (plc_at HR.out x e3).1 hq
      clear e3
      go_wp2_with fail
      go_round
      case rel => exact ⟨k + 1, by omega, by go_num, HP.out⟩
      case measure => simp [intOf]; omega
    · clear HR
      cases hq2 : (x.toList == s.toList)
      · have HN : Hid (put1 s ss = insN s ss) := put1_new fun y hy => by
          rw [HP.out, e3.out] at hy
          cases hy
          exact hq2
        go_wp2_with fail
        clear e2 e4 hq hq2
        refine lp6 (n := ss.length) (na := some ⟨b, o, none⟩) (nc := c) (L := texts ss) HS.out.lies.1 (by rw [texts_length, Nat.mul_one]) texts_one hc hk (by omega) (fun _ d _ _ _ h => by cases d <;> exact h) ?_
        intro W1 v' v33 v34 v35 v36 v37 v38 v39 v40 v41 v42 v43 hb hown
        rw [← HP.out, ← insN_texts, ← HN.out] at hown
        have e6 : ss.length + 1 = (put1 s ss).length := by rw [HN.out, insN_len]
        rw [e6] at hown
        obtain ⟨a', c', rfl, hl, hcc, _⟩ := own_lies hown
        have HF : Hid (SIn W1 (put1 s ss) a' ∧ ((put1 s ss).length ≤ c' ∧ c' ≤ maxLen)) := ⟨hl.sin (fun y hy => by rcases put1_mem hy with rfl | hy; exact ht; exact HS.out.lies.2 y hy), hcc⟩
        clear hl hcc hown e6
        go_wp2_with fail
        go_ret
        exact ⟨⟨a', c', rfl, HF.out⟩, hb⟩
      · have HN : Hid (put1 s ss = ss) := put1_old (x := x) (by rw [HP.out]; exact e3.out) hq2
        go_wp2_with fail
        go_ret
        rw [HN.out]
        exact ⟨⟨some ⟨b, o, none⟩, c, rfl, HS.out, hc⟩, Below.refl _ _⟩
    · clear HR
      have HN : Hid (put1 s ss = insN s ss) := put1_new fun y hy => by
        rw [HP.out, e3.out] at hy
        cases hy
      go_wp2_with fail
      clear e2
      refine lp6 (n := ss.length) (na := a) (nc := c) (L := texts ss) HS.out.lies.1 (by rw [texts_length, Nat.mul_one]) texts_one hc hk (by omega) (fun _ d _ _ _ h => by cases d <;> exact h) ?_
      intro W1 v' v33 v34 v35 v36 v37 v38 v39 v40 v41 v42 v43 hb hown
      rw [← HP.out, ← insN_texts, ← HN.out] at hown
      have e6 : ss.length + 1 = (put1 s ss).length := by rw [HN.out, insN_len]
      rw [e6] at hown
      obtain ⟨a', c', rfl, hl, hcc, _⟩ := own_lies hown
      have HF : Hid (SIn W1 (put1 s ss) a' ∧ ((put1 s ss).length ≤ c' ∧ c' ≤ maxLen)) := ⟨hl.sin (fun y hy => by rcases put1_mem hy with rfl | hy; exact ht; exact HS.out.lies.2 y hy), hcc⟩
      clear hl hcc hown e6
      go_wp2_with fail
      go_ret
      exact ⟨⟨a', c', rfl, HF.out⟩, hb⟩
end Go.Proofs.Ytmghhcdhjjhbeaa
/- Ascending texts: where one belongs, by halves, and what is there then: the mathematics. -/
namespace Go.Proofs.Ytmghhcdhjjhbeaa
open Go.RowKit
theorem bl_tr : ∀ {a b c : List UInt8}, Op.bytesLess a b = true → Op.bytesLess b c = true → Op.bytesLess a c = true := by
  intro a
  induction a with
  | nil => intro b c h1 h2; cases b with
    | nil => exact h2
    | cons y t => cases c with
      | nil => simp [Op.bytesLess] at h2
      | cons z u => simp [Op.bytesLess]
  | cons x s ih =>
    intro b c h1 h2
    cases b with
    | nil => simp [Op.bytesLess] at h1
    | cons y t =>
      cases c with
      | nil => simp [Op.bytesLess] at h2
      | cons z u =>
        simp only [Op.bytesLess] at h1 h2 ⊢
        rw [Bool.or_eq_true, decide_eq_true_iff, Bool.and_eq_true, beq_iff_eq] at h1 h2 ⊢
        rcases h1 with h1 | ⟨rfl, h1⟩
        · rcases h2 with h2 | ⟨rfl, h2⟩
          · exact .inl (UInt8.lt_trans h1 h2)
          · exact .inl h1
        · rcases h2 with h2 | ⟨rfl, h2⟩
          · exact .inl h2
          · exact .inr ⟨rfl, ih h1 h2⟩
theorem bl_irr : ∀ a : List UInt8, Op.bytesLess a a = false := by
  intro a
  induction a with
  | nil => rfl
  | cons x s ih => simp [Op.bytesLess, ih]
theorem bl_tri : ∀ {a b : List UInt8}, Op.bytesLess a b = false → a ≠ b → Op.bytesLess b a = true := by
  intro a
  induction a with
  | nil => intro b h hne; cases b with
    | nil => exact absurd rfl hne
    | cons y t => simp [Op.bytesLess] at h
  | cons x s ih =>
    intro b h hne
    cases b with
    | nil => simp [Op.bytesLess]
    | cons y t =>
      simp only [Op.bytesLess, Bool.or_eq_false_iff, decide_eq_false_iff_not, Bool.and_eq_false_iff, beq_eq_false_iff_ne] at h
      simp only [Op.bytesLess, Bool.or_eq_true, decide_eq_true_iff, Bool.and_eq_true, beq_iff_eq]
      obtain ⟨h1, h2⟩ := h
      by_cases e : x = y
      · subst e
        exact .inr ⟨rfl, ih (by rcases h2 with h2 | h2; exact absurd rfl h2; exact h2) (fun e => hne (by rw [e]))⟩
      · refine .inl ?_
        rcases UInt8.lt_or_lt_of_ne e with h3 | h3
        · exact absurd h3 h1
        · exact h3
/-- ascending -/
def ascT : List ByteArray → Prop
  | [] => True
  | x :: t => (∀ y ∈ t, Op.bytesLess x.toList y.toList = true) ∧ ascT t
theorem asc_plc : ∀ {ns : List ByteArray} {s : ByteArray}, ascT ns → (∀ t x, t < plc s ns → ns[t]? = some x → Op.bytesLess x.toList s.toList = true) ∧ (∀ t x, plc s ns ≤ t → ns[t]? = some x → Op.bytesLess x.toList s.toList = false) := by
  intro ns
  induction ns with
  | nil => intro s _; exact ⟨fun t x _ h => by simp at h, fun t x _ h => by simp at h⟩
  | cons a l ih =>
    rintro s ⟨h1, h2⟩
    obtain ⟨i1, i2⟩ := ih (s := s) h2
    cases hq : Op.bytesLess a.toList s.toList
    · have e : plc s (a :: l) = 0 := by unfold plc; rw [hq]; rfl
      rw [e]
      refine ⟨fun t x h => absurd h (Nat.not_lt_zero _), fun t x _ h => ?_⟩
      cases t with
      | zero => simp at h; subst h; exact hq
      | succ t =>
        simp at h
        cases hz : Op.bytesLess x.toList s.toList
        · rfl
        · have := bl_tr (h1 x (List.mem_of_getElem? h)) hz
          rw [hq] at this; exact this.symm
    · have e : plc s (a :: l) = plc s l + 1 := by show (if Op.bytesLess a.toList s.toList then plc s l + 1 else 0) = plc s l + 1; rw [hq]; rfl
      rw [e]
      refine ⟨fun t x h1 h => ?_, fun t x h1 h => ?_⟩
      · cases t with
        | zero => simp at h; subst h; exact hq
        | succ t => exact i1 t x (by omega) (by simpa using h)
      · cases t with
        | zero => omega
        | succ t => exact i2 t x (by omega) (by simpa using h)
theorem asc_bs {ns : List ByteArray} {s : ByteArray} (h : ascT ns) : Lib.bsGo (fun t => Op.bytesLess (ns.getD t s).toList s.toList) ns.length 0 ns.length = plc s ns := by
  obtain ⟨h1, h2⟩ := asc_plc (s := s) h
  have hle := plc_le s ns
  refine Lib.bsGo_spec _ _ (fun t ht => ?_) (fun t ht => ?_) _ _ _ (by omega) (Nat.zero_le _) hle
  · have hl : t < ns.length := by omega
    have e := List.getElem?_eq_getElem hl
    rw [List.getD_eq_getElem?_getD, e]
    exact h1 t _ ht e
  · by_cases hl : t < ns.length
    · have e := List.getElem?_eq_getElem hl
      rw [List.getD_eq_getElem?_getD, e]
      exact h2 t _ ht e
    · rw [List.getD_eq_getElem?_getD, List.getElem?_eq_none (by omega)]
      exact bl_irr _
theorem asc_mem_le {ns : List ByteArray} {s : ByteArray} (h : ascT ns) : ∀ x ∈ ns.take (plc s ns), Op.bytesLess x.toList s.toList = true := by
  intro x hx
  obtain ⟨t, ht, e⟩ := List.getElem_of_mem hx
  rw [List.length_take] at ht
  rw [List.getElem_take] at e
  exact (asc_plc h).1 t x (by omega) (by rw [← e]; exact List.getElem?_eq_getElem (by omega))
theorem ascT_app : ∀ {a b : List ByteArray}, ascT (a ++ b) ↔ ascT a ∧ ascT b ∧ ∀ x ∈ a, ∀ y ∈ b, Op.bytesLess x.toList y.toList = true := by
  intro a
  induction a with
  | nil => intro b; exact ⟨fun h => ⟨trivial, h, fun x hx => by cases hx⟩, fun h => h.2.1⟩
  | cons c l ih =>
    intro b
    show ((∀ y ∈ l ++ b, Op.bytesLess c.toList y.toList = true) ∧ ascT (l ++ b)) ↔ ((∀ y ∈ l, Op.bytesLess c.toList y.toList = true) ∧ ascT l) ∧ ascT b ∧ ∀ x ∈ c :: l, ∀ y ∈ b, Op.bytesLess x.toList y.toList = true
    rw [ih]
    constructor
    · rintro ⟨h1, h2, h3, h4⟩
      refine ⟨⟨fun y hy => h1 y (List.mem_append_left _ hy), h2⟩, h3, fun x hx y hy => ?_⟩
      rcases List.mem_cons.1 hx with rfl | hx
      · exact h1 y (List.mem_append_right _ hy)
      · exact h4 x hx y hy
    · rintro ⟨⟨h1, h2⟩, h3, h4⟩
      refine ⟨fun y hy => ?_, h2, h3, fun x hx y hy => h4 x (List.mem_cons_of_mem _ hx) y hy⟩
      rcases List.mem_append.1 hy with hy | hy
      · exact h1 y hy
      · exact h4 c (List.mem_cons_self ..) y hy
theorem asc_put1 {ns : List ByteArray} {s : ByteArray} (h : ascT ns) : ascT (put1 s ns) := by
  unfold put1
  split
  · exact h
  · rename_i hx
    have hno : ∀ x, ns[plc s ns]? = some x → (x.toList == s.toList) = false := fun x e => by
      rw [hasAt_some e] at hx
      cases hq : (x.toList == s.toList)
      · rfl
      · exact absurd hq hx
    obtain ⟨h1, h2⟩ := asc_plc (s := s) h
    have hs : ascT (ns.take (plc s ns) ++ ns.drop (plc s ns)) := by rw [List.take_append_drop]; exact h
    obtain ⟨a1, a2, a3⟩ := ascT_app.1 hs
    have hd : ∀ y ∈ ns.drop (plc s ns), Op.bytesLess s.toList y.toList = true := by
      intro y hy
      obtain ⟨t, ht, e⟩ := List.getElem_of_mem hy
      rw [List.length_drop] at ht
      rw [List.getElem_drop] at e
      have e2 : ns[plc s ns + t]? = some y := by rw [← e]; exact List.getElem?_eq_getElem (by omega)
      have hf := h2 (plc s ns + t) y (by omega) e2
      refine bl_tri hf fun e3 => ?_
      cases t with
      | zero =>
        have := hno y e2
        rw [e3] at this
        simp at this
      | succ t =>
        have e0 : ns[plc s ns]? = some ns[plc s ns] := List.getElem?_eq_getElem (by omega)
        have hlt : Op.bytesLess (ns[plc s ns]'(by omega)).toList y.toList = true := by
          have : ns.drop (plc s ns) = ns[plc s ns]'(by omega) :: ns.drop (plc s ns + 1) := List.drop_eq_getElem_cons (by omega)
          rw [this] at a2
          refine a2.1 y (List.mem_of_getElem? (i := t) ?_)
          rw [List.getElem?_drop, show plc s ns + 1 + t = plc s ns + (t + 1) by omega]
          exact e2
        rw [e3] at hlt
        have h0 := h2 (plc s ns) _ (Nat.le_refl _) e0
        rw [h0] at hlt
        cases hlt
    exact ascT_app.2 ⟨a1, ⟨hd, a2⟩, fun x hx y hy => by
      rcases List.mem_cons.1 hy with rfl | hy
      · exact asc_mem_le h x hx
      · exact a3 x hx y hy⟩
end Go.Proofs.Ytmghhcdhjjhbeaa
/- The library's contracts on slices.BinarySearch and slices.Insert of texts at this dump. -/
namespace Go.Proofs.Ytmghhcdhjjhbeaa
open Go.Shelf Go.RowKit
def renS26 : Ren := ⟨fun | 26 => 85 | 33 => 118 | 34 => 119 | 38 => 141 | n => n, fun | 0 => 0 | 3 => 3 | 4 => 4 | 9 => 9 | 24 => 25 | 40 => 131 | n => n, fun | n => n⟩
theorem laysS26 : Lays2.n26 Try.prog renS26 := {
  mixed := by kernel_rfl
  f26 := Try.func85.trans (congrArg some (by kernel_rfl))
  f33 := Try.func118.trans (congrArg some (by kernel_rfl))
  f34 := Try.func119.trans (congrArg some (by kernel_rfl))
  f38 := Try.func141.trans (congrArg some (by kernel_rfl))
  t0 := Try.underlying0
  a0 := Try.isAgg0
  z0 := Try.sizeOf0
  v0 := Try.zeroValue0
  t3 := Try.underlying3
  a3 := Try.isAgg3
  z3 := Try.sizeOf3
  v3 := Try.zeroValue3
  t4 := Try.underlying4
  a4 := Try.isAgg4
  z4 := Try.sizeOf4
  v4 := Try.zeroValue4
  t9 := Try.underlying9
  a9 := Try.isAgg9
  z9 := Try.sizeOf9
  v9 := Try.zeroValue9
  t24 := Try.underlying25
  a24 := Try.isAgg25
  z24 := Try.sizeOf25
  v24 := Try.zeroValue25
  t40 := Try.underlying131
  a40 := Try.isAgg131
  z40 := Try.sizeOf131
  v40 := Try.zeroValue131 }
def renS22 : Ren := ⟨fun | 17 => 149 | 22 => 86 | 29 => 120 | 30 => 121 | 36 => 142 | n => n, fun | 0 => 0 | 3 => 3 | 4 => 4 | 9 => 9 | 24 => 25 | n => n, fun | n => n⟩
theorem laysS22 : Lays2.n22 Try.prog renS22 := {
  mixed := by kernel_rfl
  f17 := Try.func149.trans (congrArg some (by kernel_rfl))
  f22 := Try.func86.trans (congrArg some (by kernel_rfl))
  f29 := Try.func120.trans (congrArg some (by kernel_rfl))
  f30 := Try.func121.trans (congrArg some (by kernel_rfl))
  f36 := Try.func142.trans (congrArg some (by kernel_rfl))
  t0 := Try.underlying0
  a0 := Try.isAgg0
  z0 := Try.sizeOf0
  v0 := Try.zeroValue0
  t3 := Try.underlying3
  a3 := Try.isAgg3
  z3 := Try.sizeOf3
  v3 := Try.zeroValue3
  t4 := Try.underlying4
  a4 := Try.isAgg4
  z4 := Try.sizeOf4
  v4 := Try.zeroValue4
  t9 := Try.underlying9
  a9 := Try.isAgg9
  z9 := Try.sizeOf9
  v9 := Try.zeroValue9
  t24 := Try.underlying25
  a24 := Try.isAgg25
  z24 := Try.sizeOf25
  v24 := Try.zeroValue25
  i9 := by kernel_rfl }
end Go.Proofs.Ytmghhcdhjjhbeaa
/- A text put into a list that is owned, by the library: slices.Insert. -/
namespace Go.Proofs.Ytmghhcdhjjhbeaa
open Go.RowKit
attribute [local go_sem] cell_alloc_is frozen_alloc_is
/-- texts in a block of their own, with room behind them -/
def OwnT (B : Nat) (w : World) (a : Option Addr) (c : Nat) (ns : List ByteArray) : Prop :=
  (a = none ∧ c = 0 ∧ ns = []) ∨ ∃ g f, a = some ⟨g, 0, none⟩ ∧ B ≤ g ∧ (ns.length ≤ c ∧ c ≤ maxLen) ∧ w.rowIs g 9 c f ∧ ∀ i x, ns[i]? = some x → f i = .string x
theorem OwnT.of_block {B : Nat} {w w' : World} {a : Option Addr} {c : Nat} {ns : List ByteArray} (h : OwnT B w a c ns) (hb : ∀ g, a = some ⟨g, 0, none⟩ → w'.heap[g]? = w.heap[g]?) : OwnT B w' a c ns := by
  rcases h with h | ⟨g, f, rfl, h1, h2, h3, h4⟩
  · exact .inl h
  · exact .inr ⟨g, f, rfl, h1, h2, h3.of_block (hb g rfl), h4⟩
theorem OwnT.cell {B : Nat} {w : World} {a : Option Addr} {c : Nat} {ns : List ByteArray} (h : OwnT B w a c ns) {g : Nat} (ha : a = some ⟨g, 0, none⟩) {i : Nat} {x : ByteArray} (hx : ns[i]? = some x) : w.cell? ⟨g, i, none⟩ = some (.string x) := by
  rcases h with ⟨h, _⟩ | ⟨g', f, e, h1, h2, h3, h4⟩
  · rw [h] at ha; cases ha
  · rw [e] at ha; cases ha
    rw [h3.cell (i := i) (by have := (List.getElem?_eq_some_iff.1 hx).1; omega), h4 i x hx]
theorem OwnT.lt {B : Nat} {w : World} {a : Option Addr} {c : Nat} {ns : List ByteArray} (h : OwnT B w a c ns) {g : Nat} (ha : a = some ⟨g, 0, none⟩) : B ≤ g ∧ g < w.heap.size := by
  rcases h with ⟨h, _⟩ | ⟨g', f, e, h1, h2, h3, h4⟩
  · rw [h] at ha; cases ha
  · rw [e] at ha; cases ha
    exact ⟨h1, h3.lt⟩
theorem shape_row {w : World} {b : Nat} {t : TypeId} {n : Nat} {f : Nat → Value} (h : w.rowIs b t n f) : w.shape? b = some (t, n) := by
  obtain ⟨c, h1, h2, _⟩ := h
  unfold World.shape?
  rw [h1, ← h2]
theorem getElem_ins {α : Type} {ns : List α} {s x : α} {k i : Nat} (hk : k ≤ ns.length) (h : (ns.take k ++ s :: ns.drop k)[i]? = some x) : (i < k ∧ ns[i]? = some x) ∨ (i = k ∧ x = s) ∨ (k < i ∧ ns[i - 1]? = some x) := by
  have hl : (ns.take k).length = k := by rw [List.length_take]; omega
  by_cases h1 : i < k
  · rw [List.getElem?_append_left (by omega), List.getElem?_take, if_pos h1] at h
    exact .inl ⟨h1, h⟩
  · rw [List.getElem?_append_right (by omega), hl] at h
    by_cases h2 : i = k
    · subst h2; simp at h; exact .inr (.inl ⟨rfl, h.symm⟩)
    · obtain ⟨j, hj⟩ : ∃ j, i - k = j + 1 := ⟨i - k - 1, by omega⟩
      rw [hj, List.getElem?_cons_succ, List.getElem?_drop] at h
      exact .inr (.inr ⟨by omega, by rw [show i - 1 = k + j by omega]; exact h⟩)
/-- what putting one in does -/
def InsC (B : Nat) (w : World) (a : Option Addr) (ns' : List ByteArray) (e : Ending) (w' : World) : Prop :=
  ∃ a' c', e = .returned (.slice a' ns'.length c') ∧ OwnT B w' a' c' ns' ∧ (Below B w w' ∧ ∀ x, x < w.heap.size → some x ≠ a.map (·.block) → w'.heap[x]? = w.heap[x]?) ∧ (a'.map (·.block) = a.map (·.block) ∨ ∃ g, a'.map (·.block) = some g ∧ w.heap.size ≤ g)
theorem texts_at {ns : List ByteArray} {j : Nat} {v : Value} (h : (texts ns)[j]? = some v) : ∃ x, ns[j]? = some x ∧ v = .string x := by
  unfold texts at h
  rw [List.getElem?_map] at h
  cases e : ns[j]? with
  | none => rw [e] at h; cases h
  | some x => rw [e] at h; exact ⟨x, rfl, (Option.some.inj h).symm⟩
theorem heap_setCellsO {g x : Nat} (h : ¬ x = g) : ∀ {vs : List Value} {o : Nat} {w : World}, (w.setCells g o vs).heap[x]? = w.heap[x]?
  | [], _, _ => rfl
  | _ :: r, o, _ => (heap_setCellsO h (vs := r) (o := o + 1)).trans (Go.Deep.blk_setCell_other _ _ _ _ h)
theorem zs_size (n : Nat) : (Builtin.zeroCells (Value.string ⟨#[]⟩).cells n).size = n := by
  rw [size_zeroCells]; show n * 1 = n; omega
theorem texts_get {ns : List ByteArray} {i : Nat} {x : ByteArray} (h : ns[i]? = some x) : (texts ns)[i]? = some (.string x) := by
  unfold texts; rw [List.getElem?_map, h]; rfl
/-- a new row out of an array -/
theorem row_of (w : World) (A : Array Value) (n : Nat) (hn : A.size = n) : (w.alloc (.cells A 9)).rowIs w.heap.size 9 n (fun i => A[i]?.getD (.string ⟨#[]⟩)) := by
  subst hn
  exact World.rowIs_alloc w A _ _ (fun i hi => by rw [Array.getElem?_eq_getElem hi]; rfl)
theorem app_get {L : List Value} {Z : Array Value} {i : Nat} {v : Value} (h : L[i]? = some v) : (L.toArray ++ Z)[i]? = some v := by
  have hi := (List.getElem?_eq_some_iff.1 h).1
  rw [Array.getElem?_append, if_pos (by simpa using hi)]
  simpa using h
theorem row_drew {w : World} {b : Nat} {t : TypeId} {n : Nat} {f : Nat → Value} (h : w.rowIs b t n f) : w.drew.rowIs b t n f := h
set_option maxHeartbeats 1000000 in
theorem insert_any {B : Nat} {w : World} {a : Option Addr} {c k vb : Nat} {ns : List ByteArray} {s : ByteArray} (h : OwnT B w a c ns) (hB : B ≤ w.heap.size) (hk : k ≤ ns.length) (hv : w.rowIs vb 9 1 (fun _ => .string s)) (hva : a.map (·.block) ≠ some vb) (hn : ns.length ≤ 1100000) :
    Calls Try.prog 86 #[.slice a ns.length c, .int .i64 (k : Nat), .slice (some ⟨vb, 0, none⟩) 1 1] w fun e w' => InsC B w a (ns.take k ++ s :: ns.drop k) e w' := by
  have hlen : (ns.take k ++ s :: ns.drop k).length = ns.length + 1 := by simp; omega
  have hvs : ∀ j v, ([Value.string s] : List Value)[j]? = some v → w.cell? ⟨vb, 0 + j, none⟩ = some v := by
    intro j v hj
    cases j with
    | zero => simp at hj; subst hj; exact hv.cell (by omega)
    | succ j => simp at hj
  have h1v : ∀ v ∈ ([Value.string s] : List Value), v.oneCell' = true := fun v hv => by simp at hv; subst hv; rfl
  have h1c : ∀ v ∈ texts ns, v.oneCell' = true := texts_one
  have hcl : (texts ns).length = ns.length := texts_length ns
  rcases h with ⟨rfl, rfl, rfl⟩ | ⟨g, f, rfl, hg, ⟨hc1, hc2⟩, hrow, hf⟩
  · obtain rfl : k = 0 := Nat.le_zero.1 hk
    refine (Any2.slices_Insert_string_end_grow laysS22 none 0 0 vb 0 1 1 [] [.string s] w (by omega) (Nat.le_refl _) (by omega) (by omega) rfl rfl (fun _ => rfl) (fun a e => nomatch e) hvs h1v).mono ?_
    rintro e w' ⟨rfl, rfl⟩
    have hge := grownCap_ge w (0 + 1) 0 9
    refine ⟨some ⟨w.heap.size, 0, none⟩, grownCap w (0 + 1) 0 9, rfl, .inr ⟨w.heap.size, _, rfl, hB, ⟨hge, grownCap_le_maxLen _ _ _ _ (by unfold maxLen; omega)⟩, row_of w.drew _ _ ?_, ?_⟩, ⟨((Below.refl _ _).drew).alloc hB _, fun x hx _ => heap_alloc_old _ _ hx⟩, .inr ⟨_, rfl, Nat.le_refl _⟩⟩
    · rw [Array.size_append]
      show 1 + (Builtin.zeroCells (Value.string ⟨#[]⟩).cells (grownCap w (0 + 1) 0 9 - (0 + 1))).size = _
      rw [zs_size]; omega
    · intro i x hx
      have hx2 : ([s] : List ByteArray)[i]? = some x := hx
      show (([Value.string s].toArray ++ _)[i]?).getD _ = _
      rw [app_get (L := [Value.string s]) (texts_get hx2)]; rfl
  · have hcs : ∀ j v, (texts ns)[j]? = some v → w.cell? ⟨g, 0 + j, none⟩ = some v := fun j v hj => by
      obtain ⟨x, hx, rfl⟩ := texts_at hj
      have := (List.getElem?_eq_some_iff.1 hx).1
      rw [Nat.zero_add, hrow.cell (by omega), hf j x hx]
    have hvg : ¬ vb = g := fun e => hva (by rw [e]; rfl)
    have hsp : ∀ j, j < c → (w.cell? ⟨g, 0 + j, none⟩).isSome = true := fun j hj => by rw [Nat.zero_add, hrow.cell hj]; rfl
    have hfz : ∀ j, w.frozen? ⟨g, j, none⟩ = false := fun j => hrow.frozen j
    have hsa := shape_row hv
    have hsb := shape_row hrow
    unfold maxLen at hc2
    by_cases hkn : k < ns.length
    · by_cases hroom : ns.length + 1 ≤ c
      · refine (Any2.slices_Insert_string_shift laysS22 g 0 ns.length c k vb 0 1 1 (texts ns) [.string s] w hkn (by omega) hroom (by omega) hvg hcl rfl hcs (fun j hj => hsp j (by omega)) (fun j _ => hfz _) hvs h1c h1v _ _ _ _ hsa hsb (by omega) (hv.frozen 0) (hv.frozen 1)).mono ?_
        rintro e w' ⟨rfl, rfl⟩
        have r1 := rowIs_setCells ((texts ns).drop k) (0 + (k + 1)) w.drew _ (row_drew hrow)
        have r2 := rowIs_setCells [Value.string s] (0 + k) _ _ r1
        refine ⟨some ⟨g, 0, none⟩, c, by rw [hlen], .inr ⟨g, _, rfl, hg, ⟨by rw [hlen]; exact hroom, hc2⟩, r2, ?_⟩, ⟨below_setCells hg _ _ _ (below_setCells hg _ _ _ (Below.refl _ _).drew), fun x hx hne => ?_⟩, .inl rfl⟩
        · intro i x hx
          rcases getElem_ins hk hx with ⟨h1, h2⟩ | ⟨h1, h2⟩ | ⟨h1, h2⟩
          · rw [if_neg (by simp; omega), if_neg (by omega)]; exact hf i x h2
          · subst h1; subst h2
            rw [if_pos (by simp)]; simp
          · have h3 := (List.getElem?_eq_some_iff.1 h2).1
            rw [if_neg (by simp; omega), if_pos (by rw [List.length_drop, hcl]; omega), List.getElem?_drop, show k + (i - (0 + (k + 1))) = i - 1 by omega, texts_get h2]; rfl
        · have hxg : ¬ x = g := fun e => hne (by rw [e]; rfl)
          rw [heap_setCellsO hxg, heap_setCellsO hxg]; rfl
      · have hce : c = ns.length := by omega
        refine (Any2.slices_Insert_string_grow laysS22 g 0 ns.length c k vb 0 1 1 (texts ns) [.string s] w hkn (by omega) hc1 (by omega) (by omega) hcl rfl hcs hvs h1c h1v).mono ?_
        rintro e w' ⟨rfl, rfl⟩
        have hge := grownCap_ge w (ns.length + 1) c 9
        have r0 := row_of w (((texts ns).take k).toArray ++ Builtin.zeroCells (Value.string ⟨#[]⟩).cells (ns.length + 1 - k) ++ Builtin.zeroCells (Value.string ⟨#[]⟩).cells (grownCap w (ns.length + 1) c 9 - (ns.length + 1))) (grownCap w (ns.length + 1) c 9) (by
          rw [Array.size_append, Array.size_append, zs_size, zs_size]
          simp only [List.size_toArray, List.length_take, hcl]
          omega)
        have r1 := rowIs_setCells [Value.string s] k _ _ (row_drew r0)
        have r2 := rowIs_setCells ((texts ns).drop k) (k + 1) _ _ (row_drew r1)
        refine ⟨some ⟨w.heap.size, 0, none⟩, grownCap w (ns.length + 1) c 9, by rw [hlen]; rfl, .inr ⟨w.heap.size, _, rfl, hB, ⟨by rw [hlen]; exact hge, grownCap_le_maxLen _ _ _ _ (by unfold maxLen; omega)⟩, r2, ?_⟩, ⟨below_setCells hB _ _ _ ((below_setCells hB _ _ _ ((Below.refl _ _).alloc hB _).drew).drew), fun x hx hne => ?_⟩, .inr ⟨_, rfl, Nat.le_refl _⟩⟩
        · intro i x hx
          rcases getElem_ins hk hx with ⟨h1, h2⟩ | ⟨h1, h2⟩ | ⟨h1, h2⟩
          · rw [if_neg (by omega), if_neg (by simp; omega), Array.append_assoc, app_get (v := .string x) (by rw [List.getElem?_take, if_pos h1]; exact texts_get h2)]; rfl
          · subst h1; subst h2
            rw [if_neg (by omega), if_pos (by simp)]; simp
          · have h3 := (List.getElem?_eq_some_iff.1 h2).1
            rw [if_pos (by rw [List.length_drop, hcl]; omega), List.getElem?_drop, show k + (i - (k + 1)) = i - 1 by omega, texts_get h2]; rfl
        · have hxw : ¬ x = w.heap.size := by omega
          rw [heap_setCellsO hxw]
          show ((w.alloc _).drew.setCells w.heap.size k [Value.string s]).heap[x]? = _
          rw [heap_setCellsO hxw]
          exact heap_alloc_old _ _ hx
    · obtain rfl : k = ns.length := by omega
      have e2 : ns.take ns.length ++ s :: ns.drop ns.length = ns ++ [s] := by rw [List.take_length, List.drop_length]
      rw [e2] at hlen ⊢
      by_cases hroom : ns.length + 1 ≤ c
      · refine (Any2.slices_Insert_string_end_room laysS22 g 0 ns.length c vb 0 1 1 [.string s] w (by omega) hroom (by omega) rfl (fun j hj => by have := hsp (ns.length + j) (by omega); rw [Nat.zero_add] at this; simpa using this) (fun j _ => hfz _) hvs h1v).mono ?_
        rintro e w' ⟨rfl, rfl⟩
        have r2 := rowIs_setCells [Value.string s] (0 + ns.length) w _ hrow
        refine ⟨some ⟨g, 0, none⟩, c, by rw [hlen], .inr ⟨g, _, rfl, hg, ⟨by rw [hlen]; exact hroom, hc2⟩, r2, ?_⟩, ⟨below_setCells hg _ _ _ (Below.refl _ _), fun x hx hne => heap_setCellsO (fun e => hne (by rw [e]; rfl))⟩, .inl rfl⟩
        intro i x hx
        rw [← e2] at hx
        rcases getElem_ins (Nat.le_refl _) hx with ⟨h1, h2⟩ | ⟨h1, h2⟩ | ⟨h1, h2⟩
        · rw [if_neg (by omega)]; exact hf i x h2
        · subst h1; subst h2
          rw [if_pos (by simp)]; simp
        · have h3 := (List.getElem?_eq_some_iff.1 h2).1
          omega
      · have hce : c = ns.length := by omega
        refine (Any2.slices_Insert_string_end_grow laysS22 (some ⟨g, 0, none⟩) ns.length c vb 0 1 1 (texts ns) [.string s] w (by omega) hc1 (by omega) (by omega) hcl rfl (fun e => by cases e) (fun a e j v hj => by cases e; rw [addr_add]; exact hcs j v hj) hvs h1v).mono ?_
        rintro e w' ⟨rfl, rfl⟩
        have hge := grownCap_ge w (ns.length + 1) c 9
        refine ⟨some ⟨w.heap.size, 0, none⟩, grownCap w (ns.length + 1) c 9, by rw [hlen]; rfl, .inr ⟨w.heap.size, _, rfl, hB, ⟨by rw [hlen]; exact hge, grownCap_le_maxLen _ _ _ _ (by unfold maxLen; omega)⟩, row_of w.drew _ _ ?_, ?_⟩, ⟨((Below.refl _ _).drew).alloc hB _, fun x hx _ => heap_alloc_old _ _ hx⟩, .inr ⟨_, rfl, Nat.le_refl _⟩⟩
        · rw [Array.size_append]
          show (texts ns ++ [Value.string s]).toArray.size + (Builtin.zeroCells (Value.string ⟨#[]⟩).cells (grownCap w (ns.length + 1) c 9 - (ns.length + 1))).size = _
          rw [zs_size, List.size_toArray, List.length_append, hcl]
          simp only [List.length_cons, List.length_nil]
          omega
        · intro i x hx
          have hx2 : (texts ns ++ [Value.string s])[i]? = some (.string x) := by
            have := texts_get hx
            unfold texts at this ⊢
            rw [List.map_append] at this
            exact this
          show (((texts ns ++ [Value.string s]).toArray ++ _)[i]?).getD _ = _
          rw [app_get hx2]; rfl
end Go.Proofs.Ytmghhcdhjjhbeaa
/- Marks: the text of a mark; a list of texts that is owned is marked, and holds its marks. -/
namespace Go.Proofs.Ytmghhcdhjjhbeaa
open Go.RowKit
attribute [local go_sem] cell_alloc_is frozen_alloc_is
/-- the figures of a number ahead of a text -/
def mfig : Nat → Nat → List UInt8 → List UInt8
  | 0, _, out => out
  | f + 1, k, out => if k = 0 then out else mfig f (k / 10) (UInt8.ofNat (48 + k % 10) :: out)
def mtext (k : Nat) : ByteArray := if k = 0 then ⟨#[109, 48]⟩ else ⟨(109 :: mfig 20 k []).toArray⟩
set_option maxHeartbeats 1000000 in
theorem conv1M (W : World) (b : Nat) (c : Int) (h0 : 0 ≤ c) (h1 : c ≤ 255) (hc : W.cell? ⟨b, 0, none⟩ = some (.int .u8 c)) :
    (convert 106 9 (.slice (some ⟨b, 0, none⟩) 1 1)).run Try.prog W = .ok (.string ⟨#[UInt8.ofNat c.toNat]⟩) W := by
  have e : (UInt8.ofNat c.toNat).toNat = c.toNat := by rw [UInt8.toNat_ofNat']; omega
  exact run_convert_bytes_back (P := Try.prog) W 106 9 5 ⟨b, 0, none⟩ 1 [UInt8.ofNat c.toNat] Try.underlying106 Try.underlying5 Try.underlying9 (by
    intro j hj
    have hj0 : j = 0 := by simp at hj; omega
    subst hj0
    simp only [List.getElem_cons_zero, e]
    rw [show ((c.toNat : Nat) : Int) = c from by omega]
    exact hc)
theorem mfig_step (f j : Nat) (l : List UInt8) (h : 0 < j) (hf : 1 ≤ f) : mfig f j l = mfig (f - 1) (j / 10) (UInt8.ofNat (48 + j % 10) :: l) := by
  obtain ⟨g, rfl⟩ : ∃ g, f = g + 1 := ⟨f - 1, by omega⟩
  show (if j = 0 then l else mfig g (j / 10) (UInt8.ofNat (48 + j % 10) :: l)) = _
  rw [if_neg (by omega)]; rfl
theorem mfig_zero (f : Nat) (l : List UInt8) : mfig f 0 l = l := by cases f <;> rfl
theorem pow_step {f j : Nat} (h : 0 < j) (hj : j < 10 ^ f) : 1 ≤ f ∧ j / 10 < 10 ^ (f - 1) := by
  cases f with
  | zero => simp at hj; omega
  | succ f =>
    rw [Nat.pow_succ] at hj
    exact ⟨by omega, by show j / 10 < 10 ^ f; omega⟩
set_option maxRecDepth 100000 in
set_option maxHeartbeats 1000000 in
theorem markText_any (k : Nat) (w : World) (hk : k ≤ 1000000000000000) :
    Calls Try.prog 57 #[.int .i64 (k : Nat)] w fun r w' => r = .returned (.string (mtext k)) ∧ Below w.heap.size w w' := by
  by_cases h0 : k = 0
  · subst h0
    go_enter Try.func57, Try.ntmps57
    go_wp2_with fail
    go_ret
    exact ⟨rfl, Below.refl _ _⟩
  · have hp : (0 : Int) < (k : Int) := by omega
    have HK : Hid (mtext k = ⟨(109 :: mfig 20 k []).toArray⟩) := if_neg h0
    have HP : Hid (k < 10 ^ 20) := by unfold Hid; omega
    clear h0
    go_enter Try.func57, Try.ntmps57
    go_wp2_with fail
    go_loopw [0, 3] (fun kk o wr => ∃ (f j : Nat) (l : List UInt8) (s : ByteArray), kk = .int .i64 j ∧ o = .string s ∧ Hid (s = ⟨l.toArray⟩ ∧ mfig f j l = mfig 20 k [] ∧ j < 10 ^ f) ∧ j ≤ k ∧ f ≤ 20 ∧ l.length + f ≤ 20 ∧ s.size ≤ 20 ∧ Below w.heap.size w wr) (fun kk _ _ => (intOf kk).toNat)
    case atStart => exact ⟨20, k, [], ⟨#[]⟩, rfl, rfl, ⟨rfl, rfl, HP.out⟩, Nat.le_refl _, Nat.le_refl _, Nat.le_refl _, Nat.zero_le _, Below.refl _ _⟩
    case round =>
      obtain ⟨f, j, l, s, rfl, rfl, HM, hjk, hf, hl, hs, hb⟩ := hrel
      by_cases hlt : 0 < j
      · have hlt' : (0 : Int) < (j : Int) := by omega
        have hcv := fun W b => conv1M W b (48 + (j : Int) % 10) (by omega) (by omega)
        obtain ⟨hs0, hm0, hp0⟩ := HM.out
        obtain ⟨hf1, hp1⟩ := pow_step hlt hp0
        have e8 : (48 : UInt8) + UInt8.ofNat (j % 10) = UInt8.ofNat (48 + j % 10) := by
          apply UInt8.toNat_inj.1
          simp
        have HN : Hid ((⟨#[48 + UInt8.ofNat (j % 10)]⟩ : ByteArray) ++ s = ⟨(UInt8.ofNat (48 + j % 10) :: l).toArray⟩ ∧ mfig (f - 1) (j / 10) (UInt8.ofNat (48 + j % 10) :: l) = mfig 20 k [] ∧ j / 10 < 10 ^ (f - 1)) := by
          refine ⟨?_, by rw [← mfig_step f j l hlt hf1]; exact hm0, hp1⟩
          rw [hs0, e8]
          exact ByteArray.ext (by simp)
        have HL : Hid (s.size = l.length) := by unfold Hid; rw [hs0]; simp [ByteArray.size]
        clear hs0 hm0 hp0 hp1 e8
        go_wp2_with fail
        go_round
        case rel =>
          refine ⟨f - 1, j / 10, UInt8.ofNat (48 + j % 10) :: l, _, by go_num, rfl, HN, by omega, by omega, by rw [List.length_cons]; omega, ?_, hb.alloc hb.size _⟩
          rw [HN.out.1]
          have := HL.out
          simp [ByteArray.size]
          omega
        case measure => simp [intOf]; omega
      · have hj0 : j = 0 := by omega
        subst hj0
        have hlt' : ¬ (0 : Int) < ((0 : Nat) : Int) := by omega
        have HF : Hid ((⟨#[109]⟩ : ByteArray) ++ s = mtext k) := by
          obtain ⟨hs0, hm0, _⟩ := HM.out
          unfold Hid
          rw [HK.out, hs0, ← hm0, mfig_zero]
          exact ByteArray.ext (by simp)
        clear HM
        go_wp2_with fail
        go_ret
        exact ⟨by rw [← HF.out]; rfl, hb⟩
theorem mtext_size (k : Nat) : (mtext k).size ≤ 30 := by
  have h : ∀ f j l, (mfig f j l).length ≤ l.length + f := by
    intro f
    induction f with
    | zero => intro j l; exact Nat.le_refl _
    | succ f ih =>
      intro j l
      show (if j = 0 then l else mfig f (j / 10) (UInt8.ofNat (48 + j % 10) :: l)).length ≤ _
      split
      · omega
      · have := ih (j / 10) (UInt8.ofNat (48 + j % 10) :: l)
        simp only [List.length_cons] at this
        omega
  have := h 20 k []
  unfold mtext
  split
  · show (2 : Nat) ≤ 30; omega
  · show ((109 :: mfig 20 k []).toArray).size ≤ 30
    simp only [List.size_toArray, List.length_cons]
    simp only [List.length_nil] at this
    omega
/-- the marks from a number on -/
def marks (k : Nat) : Nat → List ByteArray
  | 0 => []
  | n + 1 => mtext k :: marks (k + 1) n
theorem marks_len : ∀ (n k : Nat), (marks k n).length = n := by
  intro n
  induction n with
  | zero => intro k; rfl
  | succ n ih => intro k; show (marks (k + 1) n).length + 1 = n + 1; rw [ih]
theorem marks_at : ∀ (n k i : Nat), i < n → (marks k n)[i]? = some (mtext (k + i)) := by
  intro n
  induction n with
  | zero => intro k i h; omega
  | succ n ih =>
    intro k i h
    cases i with
    | zero => rfl
    | succ i =>
      show (marks (k + 1) n)[i]? = _
      rw [ih (k + 1) i (by omega), show k + 1 + i = k + (i + 1) by omega]
set_option maxHeartbeats 1000000 in
theorem markStringS_any {B : Nat} {w : World} {a : Option Addr} {c k : Nat} {ns : List ByteArray} (h : OwnT B w a c ns) (hB : B ≤ w.heap.size) (hn : ns.length ≤ 1100000) (hk : k ≤ 100000000) :
    Calls Try.prog 25 #[.slice a ns.length c, .int .i64 (k : Nat)] w fun r w' => r = .returned (.int .i64 ((k + ns.length : Nat) : Int)) ∧ OwnT B w' a c (marks k ns.length) ∧ Below B w w' ∧ ∀ x, x < w.heap.size → some x ≠ a.map (·.block) → w'.heap[x]? = w.heap[x]? := by
  rcases h with ⟨rfl, rfl, rfl⟩ | ⟨g, f, rfl, hg, ⟨hc1, hc2⟩, hrow, hf⟩
  · go_enter Try.func25, Try.ntmps25
    go_wp2_with fail
    go_loopw [1, 5] (fun kk i wr => kk = .int .i64 (k : Nat) ∧ i = .int .i64 0 ∧ wr = w) (fun _ _ _ => 0)
    case atStart => exact ⟨rfl, rfl, rfl⟩
    case round =>
      obtain ⟨rfl, rfl, rfl⟩ := hrel
      go_wp2_with fail
      go_ret
      exact ⟨rfl, .inl ⟨rfl, rfl, rfl⟩, Below.refl _ _, fun _ _ _ => rfl⟩
  · obtain ⟨n, hnn⟩ : ∃ n, ns.length = n := ⟨_, rfl⟩
    have HO : Hid (w.rowIs g 9 c f) := hrow
    rw [hnn] at hc1 hn ⊢
    have hgl := hrow.lt
    clear hf hrow hnn
    unfold maxLen at hc2
    go_enter Try.func25, Try.ntmps25
    go_wp2_with fail
    go_loopw [1, 5] (fun kk i wr => ∃ (j : Nat) (fj : Nat → Value), kk = .int .i64 ((k + j : Nat) : Int) ∧ i = .int .i64 j ∧ j ≤ n ∧ wr.rowIs g 9 c fj ∧ (∀ q, q < j → fj q = .string (mtext (k + q))) ∧ Below B w wr ∧ ∀ x, x < w.heap.size → ¬ x = g → wr.heap[x]? = w.heap[x]?) (fun _ i _ => n - (intOf i).toNat)
    case atStart => exact ⟨0, f, by simp, rfl, Nat.zero_le _, HO.out, fun q hq => absurd hq (Nat.not_lt_zero _), Below.refl _ _, fun _ _ _ => rfl⟩
    case round =>
      obtain ⟨j, fj, rfl, rfl, hj, hrj, hfj, hb, hfr⟩ := hrel
      by_cases hlt : j < n
      · have hlt' : (j : Int) < (n : Int) := by omega
        have HM := markText_any (k + j) wr (by omega)
        have HFJ : Hid (∀ q, q < j → fj q = .string (mtext (k + q))) := hfj
        clear hfj
        go_wp2_with fail
        refine HM.mono ?_
        rintro r w1 ⟨rfl, hb1⟩
        have hr1 := hrj.of_block (hb1.block g hrj.lt)
        have hcl := hr1.cell (i := j) (by omega)
        have hfz := hr1.frozen j
        have HR : Hid ((w1.setCell ⟨g, j, none⟩ (.string (mtext (k + j)))).rowIs g 9 c (fun q => if q = j then .string (mtext (k + j)) else fj q)) := hr1.set j _
        have hb2 : Below B w (w1.setCell ⟨g, j, none⟩ (.string (mtext (k + j)))) := (hb.trans (hb1.mono (Nat.le_trans hB hb.size))).setCell (p := ⟨g, j, none⟩) hg _
        have hfr2 : ∀ x, x < w.heap.size → ¬ x = g → (w1.setCell ⟨g, j, none⟩ (.string (mtext (k + j)))).heap[x]? = w.heap[x]? := fun x hx hxg => by
          rw [Go.Deep.blk_setCell_other _ _ _ _ hxg]
          exact (hb1.block x (Nat.lt_of_lt_of_le hx hb.size)).trans (hfr x hx hxg)
        have HB2 : Hid (Below B w (w1.setCell ⟨g, j, none⟩ (.string (mtext (k + j)))) ∧ ∀ x, x < w.heap.size → ¬ x = g → (w1.setCell ⟨g, j, none⟩ (.string (mtext (k + j)))).heap[x]? = w.heap[x]?) := ⟨hb2, hfr2⟩
        clear HM hrj hr1 hb hb1 hfr hb2 hfr2
        generalize hmt : mtext (k + j) = mt at *
        have HMT : Hid (mtext (k + j) = mt) := hmt
        clear hmt
        go_wp2_with fail
        go_round
        case rel =>
          refine ⟨j + 1, _, by go_num, by go_num, by omega, HR.out, fun q hq => ?_, HB2.out⟩
          by_cases e : q = j
          · rw [if_pos e, e, HMT.out]
          · rw [if_neg e]; exact HFJ.out q (by omega)
        case measure => simp [intOf]; omega
      · have hje : j = n := by omega
        have hlt' : ¬ (j : Int) < (n : Int) := by omega
        have HF : Hid (OwnT B wr (some ⟨g, 0, none⟩) c (marks k n)) := .inr ⟨g, fj, rfl, hg, ⟨by rw [marks_len]; exact hc1, hc2⟩, hrj, fun i x hx => by
          have hi := (List.getElem?_eq_some_iff.1 hx).1
          rw [marks_len] at hi
          rw [marks_at n k i hi] at hx
          cases hx
          exact hfj i (by omega)⟩
        clear hrj hfj
        subst hje
        go_wp2_with fail
        go_ret
        exact ⟨rfl, HF.out, hb, fun x hx hne => hfr x hx (fun e => hne (by simp [e]))⟩
end Go.Proofs.Ytmghhcdhjjhbeaa
/- Marks: all in a tree is written over; the tree's own lists stay where they are. -/
namespace Go.Proofs.Ytmghhcdhjjhbeaa
open Go.RowKit
attribute [local go_sem] cell_alloc_is frozen_alloc_is
/-- where a tree's lists lie, whatever stands in it -/
def Fo.Sh (w : World) : Fo → Nat → Nat → Prop
  | .nil, _, _ => True
  | .cons _ _ _ _ a c kids next, b, o => ((∀ q, q < 4 → (w.cell? ⟨b, o + q, none⟩).isSome = true ∧ w.frozen? ⟨b, o + q, none⟩ = false) ∧ w.cell? ⟨b, o + 4, none⟩ = some (.slice a kids.len c)) ∧ (kids.len ≤ c ∧ c ≤ maxLen) ∧ (kids = .nil ∨ ∃ b', a = some ⟨b', 0, none⟩ ∧ kids.Sh w b' 0) ∧ next.Sh w b (o + 5)
theorem Fo.sh_of : ∀ {F : Fo} {w : World} {P : Nat → Prop} {n b o : Nat}, F.From w b o → F.BlkZ P → Clean n w → n ≤ b → (∀ x, P x → n ≤ x) → F.Sh w b o := by
  intro F
  induction F with
  | nil => intros; trivial
  | cons k t m e a c kids next ih1 ih2 =>
    rintro w P n b o ⟨⟨h1, h2, h3, h4, h5⟩, hk, hc, hm, ht, hn⟩ ⟨z1, z2, z3⟩ hC hb hP
    have hfz : ∀ q, w.frozen? ⟨b, o + q, none⟩ = false := fun q => by
      have hl := World.block_lt_of_cell? w _ h1
      obtain ⟨cs, T, e⟩ := hC b _ hb (Array.getElem?_eq_getElem hl)
      unfold World.frozen?
      simp only []
      rw [Array.getElem?_eq_getElem hl, e]
      simp
    refine ⟨⟨fun q hq => ⟨?_, hfz q⟩, h5⟩, ⟨hc, hm⟩, ?_, ih2 hn z3 hC hb hP⟩
    · have : q = 0 ∨ q = 1 ∨ q = 2 ∨ q = 3 := by omega
      rcases this with rfl | rfl | rfl | rfl
      · rw [Nat.add_zero, h1]; rfl
      · rw [h2]; rfl
      · rw [h3]; rfl
      · rw [h4]; rfl
    · rcases z1 with z1 | ⟨b', o', e1, e2, rfl⟩
      · exact .inl z1
      · rcases hk with hk | ⟨b'', o'', e3, e4⟩
        · exact .inl hk
        · rw [e1] at e3
          cases e3
          exact .inr ⟨b', e1, ih1 e4 z2 hC (hP _ e2) hP⟩
theorem Fo.Sh.agree : ∀ {F : Fo} {w w' : World} {b o : Nat}, F.Sh w b o → o % 5 = 0 → (∀ b o, o % 5 = 4 → ∀ v, w.cell? ⟨b, o, none⟩ = some v → w'.cell? ⟨b, o, none⟩ = some v) →
    (∀ b o, (w.cell? ⟨b, o, none⟩).isSome = true → w.frozen? ⟨b, o, none⟩ = false → (w'.cell? ⟨b, o, none⟩).isSome = true ∧ w'.frozen? ⟨b, o, none⟩ = false) → F.Sh w' b o := by
  intro F
  induction F with
  | nil => intros; trivial
  | cons k t m e a c kids next ih1 ih2 =>
    rintro w w' b o ⟨⟨h1, h2⟩, h3, h4, h5⟩ ho hA hB
    refine ⟨⟨fun q hq => hB _ _ (h1 q hq).1 (h1 q hq).2, hA _ _ (by omega) _ h2⟩, h3, ?_, ih2 h5 (by omega) hA hB⟩
    rcases h4 with h4 | ⟨b', e1, e2⟩
    · exact .inl h4
    · exact .inr ⟨b', e1, ih1 e2 rfl hA hB⟩
/-- what marks do -/
def Mk (B : Nat) (P : Nat → Prop) (w w' : World) : Prop := Below B w w' ∧ (∀ x, x < w.heap.size → ¬ P x → w'.heap[x]? = w.heap[x]?) ∧
  (∀ b o, o % 5 = 4 → ∀ v, w.cell? ⟨b, o, none⟩ = some v → w'.cell? ⟨b, o, none⟩ = some v) ∧ (∀ b o, (w.cell? ⟨b, o, none⟩).isSome = true → w.frozen? ⟨b, o, none⟩ = false → (w'.cell? ⟨b, o, none⟩).isSome = true ∧ w'.frozen? ⟨b, o, none⟩ = false)
theorem Mk.refl (B : Nat) (P : Nat → Prop) (w : World) : Mk B P w w := ⟨Below.refl _ _, fun _ _ _ => rfl, fun _ _ _ _ h => h, fun _ _ h1 h2 => ⟨h1, h2⟩⟩
theorem Mk.trans {B : Nat} {P : Nat → Prop} {a b c : World} (h : Mk B P a b) (k : Mk B P b c) : Mk B P a c :=
  ⟨h.1.trans k.1, fun x hx hp => (k.2.1 x (Nat.lt_of_lt_of_le hx h.1.size) hp).trans (h.2.1 x hx hp), fun b o ho v hv => k.2.2.1 b o ho v (h.2.2.1 b o ho v hv), fun b o h1 h2 => by obtain ⟨h3, h4⟩ := h.2.2.2 b o h1 h2; exact k.2.2.2 b o h3 h4⟩
theorem Mk.of_below {B : Nat} {P : Nat → Prop} {w w' : World} (h : Below w.heap.size w w') (hB : B ≤ w.heap.size) : Mk B P w w' := by
  have hl : ∀ b o, (w.cell? ⟨b, o, none⟩).isSome = true → b < w.heap.size := fun b o h1 => by
    obtain ⟨v, hv⟩ := Option.isSome_iff_exists.1 h1
    exact World.block_lt_of_cell? w _ hv
  refine ⟨h.mono hB, fun x hx _ => h.block x hx, fun b o _ v hv => (h.cell (p := ⟨b, o, none⟩) (World.block_lt_of_cell? w _ hv)).trans hv, fun b o h1 h2 => ?_⟩
  have := hl b o h1
  exact ⟨by rw [h.cell (p := ⟨b, o, none⟩) this]; exact h1, by rw [h.frozen (p := ⟨b, o, none⟩) this]; exact h2⟩
theorem Mk.set {B : Nat} {P : Nat → Prop} (w : World) {b o : Nat} (hP : P b) (hB : B ≤ b) (ho : ¬ o % 5 = 4) (v : Value) : Mk B P w (w.setCell ⟨b, o, none⟩ v) := by
  refine ⟨(Below.refl _ _).setCell (p := ⟨b, o, none⟩) hB v, fun x _ hx => Go.Deep.blk_setCell_other _ _ _ _ (fun e => hx (by rw [e]; exact hP)), fun b' o' ho' u hu => ?_, fun b' o' h1 h2 => ⟨?_, ?_⟩⟩
  · exact (World.cell?_setCell_other _ _ _ _ (fun e => by have := congrArg Addr.off e; simp at this; omega)).trans hu
  · by_cases e : (⟨b', o', none⟩ : Addr) = ⟨b, o, none⟩
    · rw [e] at h1 ⊢
      obtain ⟨u, hu⟩ := Option.isSome_iff_exists.1 h1
      rw [World.cell?_setCell_same (h := hu)]; rfl
    · rw [World.cell?_setCell_other _ _ _ _ (fun e2 => e e2.symm)]; exact h1
  · simpa using h2
theorem Mk.sh {B : Nat} {P : Nat → Prop} {w w' : World} (h : Mk B P w w') {F : Fo} {b o : Nat} (hF : F.Sh w b o) (ho : o % 5 = 0) : F.Sh w' b o := hF.agree ho h.2.2.1 h.2.2.2
end Go.Proofs.Ytmghhcdhjjhbeaa
/- Contracts over trees: a tree that is owned is marked, node after node. -/
namespace Go.Proofs.Ytmghhcdhjjhbeaa
open Go.RowKit
attribute [local go_sem] cell_alloc_is frozen_alloc_is
theorem Fo.Sh.cells {w : World} {k : Int} {t : ByteArray} {m e : Int} {a : Option Addr} {c b o : Nat} {kids next : Fo} (h : (Fo.cons k t m e a c kids next).Sh w b o) :
    ((∃ v, w.cell? ⟨b, o, none⟩ = some v) ∧ (∃ v, w.cell? ⟨b, o + 1, none⟩ = some v) ∧ (∃ v, w.cell? ⟨b, o + 2, none⟩ = some v) ∧ (∃ v, w.cell? ⟨b, o + 3, none⟩ = some v) ∧ w.cell? ⟨b, o + 4, none⟩ = some (.slice a kids.len c)) ∧ (w.frozen? ⟨b, o, none⟩ = false ∧ w.frozen? ⟨b, o + 1, none⟩ = false ∧ w.frozen? ⟨b, o + 2, none⟩ = false ∧ w.frozen? ⟨b, o + 3, none⟩ = false) ∧ (kids.len ≤ c ∧ c ≤ maxLen) ∧ (kids = .nil ∨ ∃ b', a = some ⟨b', 0, none⟩ ∧ kids.Sh w b' 0) ∧ next.Sh w b (o + 5) := by
  obtain ⟨⟨h1, h2⟩, h3, h4, h5⟩ := h
  exact ⟨⟨Option.isSome_iff_exists.1 (h1 0 (by omega)).1, Option.isSome_iff_exists.1 (h1 1 (by omega)).1, Option.isSome_iff_exists.1 (h1 2 (by omega)).1, Option.isSome_iff_exists.1 (h1 3 (by omega)).1, h2⟩, ⟨(h1 0 (by omega)).2, (h1 1 (by omega)).2, (h1 2 (by omega)).2, (h1 3 (by omega)).2⟩, h3, h4, h5⟩
set_option maxHeartbeats 1000000 in
theorem markNodeS_all (N : Nat) : ∀ (B : Nat) (P : Nat → Prop) (a : Option Addr) (c k : Nat) (F : Fo) (w : World), F.size < N → (F = .nil ∨ ∃ b, a = some ⟨b, 0, none⟩ ∧ P b ∧ F.Sh w b 0) → F.BlkZ P → (∀ x, P x → B ≤ x) → B ≤ w.heap.size → F.len ≤ c → c ≤ maxLen → k + 4 * F.size ≤ 100000000 →
    Calls Try.prog 56 #[.slice a F.len c, .int .i64 (k : Nat)] w fun r w' => r = .returned (.int .i64 ((k + 4 * F.size : Nat) : Int)) ∧ Mk B P w w' := by
  induction N with
  | zero => intro B P a c k F w hF; omega
  | succ N ih =>
    intro B P a c k F w hF hin hz hP hB hl hc hk
    have hll := F.len_le
    unfold maxLen at hc
    go_enter Try.func56, Try.ntmps56
    go_wp2_with fail
    go_loopw [1, 5] (fun kk i wr => ∃ (j s K : Nat) (G : Fo), kk = .int .i64 (K : Nat) ∧ i = .int .i64 j ∧ K = k + 4 * s ∧ s + G.size = F.size ∧ j + G.len = F.len ∧ (G = .nil ∨ ∃ b, a = some ⟨b, 0, none⟩ ∧ P b ∧ G.Sh wr b (j * 5)) ∧ G.BlkZ P ∧ Mk B P w wr) (fun _ i _ => F.len - (intOf i).toNat)
    case atStart =>
      refine ⟨0, 0, k, F, rfl, rfl, by omega, by omega, by omega, ?_, hz, Mk.refl _ _ _⟩
      rcases hin with h | ⟨b, e1, e2, e3⟩
      · exact .inl h
      · exact .inr ⟨b, e1, e2, by simpa using e3⟩
    case round =>
      obtain ⟨j, s, K, G, rfl, rfl, hK, hs, hj, hG, hGz, hM⟩ := hrel
      have HM : Hid (Mk B P w wr) := hM
      clear hM
      cases G with
      | nil =>
        have hj' : j = F.len := by simpa [Fo.len] using hj
        have hs' : K = k + 4 * F.size := by have : s + 0 = F.size := hs; omega
        clear hj hs hG ih hK hz hin hGz
        subst hj'
        go_wp2_with fail
        go_ret
        exact ⟨by rw [hs']; rfl, HM.out⟩
      | cons k' t' m' e' a' c' kids next =>
        rcases hG with hG | ⟨b, rfl, hPb, hSh⟩
        · cases hG
        · have hss : s + (kids.size + 1 + next.size) = F.size := hs
          have hln : j + (next.len + 1) = F.len := hj
          have hlt : (j : Int) < (F.len : Int) := by omega
          obtain ⟨z1, z2, z3⟩ := hGz
          have HZ : Hid ((kids = .nil ∨ ∃ b' o', a' = some ⟨b', o', none⟩ ∧ (P b' ∧ o' = 0)) ∧ kids.BlkZ P ∧ next.BlkZ P) := ⟨z1, z2, z3⟩
          have HS : Hid ((Fo.cons k' t' m' e' a' c' kids next).Sh wr b (j * 5)) := hSh
          have HI : Hid (∀ (a : Option Addr) (c k : Nat) (F : Fo) (w : World), F.size < N → (F = .nil ∨ ∃ b, a = some ⟨b, 0, none⟩ ∧ P b ∧ F.Sh w b 0) → F.BlkZ P → B ≤ w.heap.size → F.len ≤ c → c ≤ maxLen → k + 4 * F.size ≤ 100000000 →
              Calls Try.prog 56 #[.slice a F.len c, .int .i64 (k : Nat)] w fun r w' => r = .returned (.int .i64 ((k + 4 * F.size : Nat) : Int)) ∧ Mk B P w w') := fun a c k F w h1 h2 h3 h4 h5 h6 h7 => ih B P a c k F w h1 h2 h3 hP h4 h5 h6 h7
          have hBb := hP b hPb
          have hKb : K + 4 * kids.size + 4 ≤ 100000000 := by omega
          have HK : Hid (K + 4 * kids.size + 4 = k + 4 * (s + kids.size + 1)) := by unfold Hid; omega
          have HSs : Hid (s + kids.size + 1 + next.size = F.size) := by unfold Hid; omega
          have hkn : kids.size < N := by omega
          have HP : Hid (P b) := hPb
          have hB1 : B ≤ wr.heap.size := Nat.le_trans hB HM.out.1.size
          obtain ⟨⟨⟨v0, c0⟩, -, -, -, -⟩, ⟨g0, -, -, -⟩, -, -, -⟩ := hSh.cells
          clear hK hss hs hj z1 z2 z3 hSh ih hin hz hP hPb
          go_wp2_with fail
          have M1 : Mk B P wr (wr.setCell ⟨b, j * 5, none⟩ (.int .i64 (K : Nat))) := Mk.set wr HP.out hBb (by omega) _
          generalize wr.setCell ⟨b, j * 5, none⟩ (.int .i64 (K : Nat)) = w1 at *
          have hB2 : B ≤ w1.heap.size := Nat.le_trans hB1 M1.1.size
          rw [show (K : Int) + 1 = ((K + 1 : Nat) : Int) by omega]
          refine (markText_any (K + 1) w1 (by omega)).mono ?_
          rintro r w2 ⟨rfl, hb2⟩
          have M2 : Mk B P wr w2 := M1.trans (Mk.of_below hb2 hB2)
          have HS2 : Hid ((Fo.cons k' t' m' e' a' c' kids next).Sh w2 b (j * 5)) := M2.sh HS.out (by omega)
          have HM2 : Hid (Mk B P w w2) := HM.out.trans M2
          have hB3 : B ≤ w2.heap.size := Nat.le_trans hB1 M2.1.size
          obtain ⟨⟨-, ⟨v1, c1⟩, ⟨v2, c2⟩, ⟨v3, c3⟩, c4⟩, ⟨-, g1, g2, g3⟩, -, -, -⟩ := HS2.out.cells
          have hmt := mtext_size (K + 1)
          generalize mtext (K + 1) = mt at *
          clear M1 M2 HM HS c0 g0 v0 hb2 hB2
          go_wp2_with fail
          have M3 : Mk B P w2 (((w2.setCell ⟨b, j * 5 + 1, none⟩ (.string mt)).setCell ⟨b, j * 5 + 2, none⟩ (.int .i64 ((K : Int) + 1 + 1))).setCell ⟨b, j * 5 + 2 + 1, none⟩ (.int .i64 ((K : Int) + 1 + 1 + 1))) :=
            ((Mk.set w2 HP.out hBb (by omega) _).trans (Mk.set _ HP.out hBb (by omega) _)).trans (Mk.set _ HP.out hBb (by omega) _)
          generalize ((w2.setCell ⟨b, j * 5 + 1, none⟩ (.string mt)).setCell ⟨b, j * 5 + 2, none⟩ (.int .i64 ((K : Int) + 1 + 1))).setCell ⟨b, j * 5 + 2 + 1, none⟩ (.int .i64 ((K : Int) + 1 + 1 + 1)) = w3 at *
          have HS3 : Hid ((Fo.cons k' t' m' e' a' c' kids next).Sh w3 b (j * 5)) := M3.sh HS2.out (by omega)
          have HM3 : Hid (Mk B P w w3) := HM2.out.trans M3
          have hB4 : B ≤ w3.heap.size := Nat.le_trans hB3 M3.1.size
          rw [show (K : Int) + 1 + 1 + 1 + 1 = ((K + 4 : Nat) : Int) by omega]
          have hcall := HI.out a' c' (K + 4) kids w3 hkn (by
            obtain ⟨-, -, -, hk, -⟩ := HS3.out.cells
            rcases hk with hk | ⟨b', e1, e2⟩
            · exact .inl hk
            · rcases HZ.out.1 with h | ⟨b'', o', e3, e4, rfl⟩
              · exact .inl h
              · rw [e1] at e3
                cases e3
                exact .inr ⟨b', e1, e4, e2⟩) HZ.out.2.1 hB4 HS3.out.cells.2.2.1.1 HS3.out.cells.2.2.1.2 (by omega)
          clear M3 HS2 HM2 c1 c2 c3 c4 g1 g2 g3 v1 v2 v3 hB3
          refine hcall.mono ?_
          rintro r w4 ⟨rfl, M4⟩
          have HS4 : Hid ((Fo.cons k' t' m' e' a' c' kids next).Sh w4 b (j * 5)) := M4.sh HS3.out (by omega)
          have HM4 : Hid (Mk B P w w4) := HM3.out.trans M4
          clear M4 hcall HS3 HM3 hB4
          go_wp2_with fail
          go_round
          case rel =>
            refine ⟨j + 1, s + kids.size + 1, K + 4 + 4 * kids.size, next, by go_num, by go_num, by have := HK.out; omega, HSs.out, by omega, .inr ⟨b, rfl, HP.out, ?_⟩, HZ.out.2.2, HM4.out⟩
            rw [show (j + 1) * 5 = j * 5 + 5 by omega]
            exact HS4.out.cells.2.2.2.2
          case measure => simp [intOf]; omega
set_option maxHeartbeats 400000 in
theorem markNode_any (k' : Int) (t' : ByteArray) (m' e' : Int) (B : Nat) (P : Nat → Prop) (a : Option Addr) (c k : Nat) (F : Fo) (w : World) (hin : F = .nil ∨ ∃ b, a = some ⟨b, 0, none⟩ ∧ P b ∧ F.Sh w b 0) (hz : F.BlkZ P) (hP : ∀ x, P x → B ≤ x) (hB : B ≤ w.heap.size) (hl : F.len ≤ c) (hc : c ≤ maxLen) (hk : k + 4 * F.size ≤ 100000000) :
    Calls Try.prog 24 #[nodeV k' t' m' e' a F.len c, .int .i64 (k : Nat)] w fun r w' => r = .returned (.int .i64 ((k + 4 * F.size : Nat) : Int)) ∧ Mk B P w w' := by
  go_enter Try.func24, Try.ntmps24
  go_wp2_with fail
  have M0 : Mk B P w (w.alloc (.cells #[.int .i64 k', .string t', .int .i64 m', .int .i64 e', .slice a F.len c] 47)) := Mk.of_below ((Below.refl _ _).alloc (Nat.le_refl _) _) hB
  refine (markNodeS_all (F.size + 1) B P a c k F _ (Nat.lt_succ_self _) ?_ hz hP (Nat.le_trans hB M0.1.size) hl hc hk).mono ?_
  · rcases hin with h | ⟨b, e1, e2, e3⟩
    · exact .inl h
    · exact .inr ⟨b, e1, e2, M0.sh e3 rfl⟩
  · rintro r w1 ⟨rfl, M1⟩
    have HM : Hid (Mk B P w w1) := M0.trans M1
    clear M1 M0 hin
    go_wp2_with fail
    go_ret
    exact ⟨rfl, HM.out⟩
end Go.Proofs.Ytmghhcdhjjhbeaa
/- Marks: a list of texts that holds its marks. -/
namespace Go.Proofs.Ytmghhcdhjjhbeaa
open Go.RowKit
attribute [local go_sem] cell_alloc_is frozen_alloc_is
set_option maxRecDepth 100000 in
set_option maxHeartbeats 2000000 in
theorem hs4 {Q : Exit → Act → World → Prop} {t2 t3 t4 t6 t7 t8 t9 t10 t11 t12 t13 t14 t15 t16 t17 t18 t19 t20 t21 : Value} {W : World} {b o n c k j : Nat}
    (hc : W.cell? ⟨b, o + j, none⟩ = some (.string (mtext k))) (hj : j < n) (hk : k ≤ 1000000000000000)
    (hp : ∀ p d v a w, Q (.panic p) (Act.put a d v) w → Q (.panic p) a w) (h : ∀ ws v12 v13 v14 v15 v16 v17, Below W.heap.size W ws → Q .normal { tmps := (.slice (some ⟨b, o, none⟩) n c :: .int .i64 (k : Nat) :: t2 :: t3 :: t4 :: .int .i64 (j : Nat) :: t6 :: t7 :: t8 :: t9 :: t10 :: t11 :: v12 :: v13 :: v14 :: v15 :: v16 :: v17 :: .bool false :: t19 :: t20 :: t21 :: []).toArray, defers := [] } ws) :
    Code.wp Try.prog (Code.region 4 #[{ dst := some 12, op := Op.move (Operand.tmp 0), type := 25, pos := "exact.go:302", after := #[], guard := none }, { dst := some 13, op := Op.move (Operand.tmp 5), type := 3, pos := "exact.go:302", after := #[], guard := none }, { dst := some 14, op := Op.indexAddr 25 (Operand.tmp 12) (Operand.tmp 13), type := 0, pos := "exact.go:302", after := #[{ on := 0, ground := Ground.data }, { on := 1, ground := Ground.data }], guard := none }, { dst := some 15, op := Op.load 9 (Operand.tmp 14), type := 9, pos := "exact.go:302", after := #[{ on := 2, ground := Ground.data }], guard := none }, { dst := some 16, op := Op.move (Operand.tmp 1), type := 3, pos := "exact.go:302", after := #[], guard := none }, { dst := some 17, op := Op.call { callee := Callee.value (Operand.func 57), args := #[Operand.tmp 16], argTypes := #[3] }, type := 9, pos := "exact.go:302", after := #[{ on := 4, ground := Ground.data }], guard := none }, { dst := some 18, op := Op.binOp BinOp.neq 9 (Operand.tmp 15) (Operand.tmp 17) 9, type := 4, pos := "exact.go:302", after := #[{ on := 3, ground := Ground.data }, { on := 5, ground := Ground.data }], guard := none }] true) Q { tmps := (.slice (some ⟨b, o, none⟩) n c :: .int .i64 (k : Nat) :: t2 :: t3 :: t4 :: .int .i64 (j : Nat) :: t6 :: t7 :: t8 :: t9 :: t10 :: t11 :: t12 :: t13 :: t14 :: t15 :: t16 :: t17 :: t18 :: t19 :: t20 :: t21 :: []).toArray, defers := [] } W := by
  have hvl := World.block_lt_of_cell? W _ hc
  have HS : Hid (∀ w', Below W.heap.size W w' → w'.cell? ⟨b, o + j, none⟩ = some (.string (mtext k))) := fun w' h => (h.cell (p := ⟨b, o + j, none⟩) hvl).trans hc
  have hB0 := (Below.refl W.heap.size W).drew
  have hS0 := HS.out _ hB0
  have hlt : (j : Int) < (n : Int) := by omega
  have HM := markText_any k W.drew hk
  clear hc
  generalize mtext k = mt at *
  refine wp_region_held_drew (S := fun w' => w'.cell? ⟨b, o + j, none⟩ = some (.string mt)) (by kernel_rfl) hS0 (fun hHeld => ?_)
  generalize W.drew = Wd at *
  refine wpAnyH_take (i := 0) (v := .slice (some ⟨b, o, none⟩) n c) rfl (by kernel_rfl) (by kernel_rfl) (by kernel_rfl) (fun _ _ _ h => hp _ _ _ _ _ h) (Or.inl ⟨by rfl, ?_⟩) (by assumption) ?_
  · intro w hSw
    (try dsimp only at hSw)
    go_simp
  (try simp only [Act.put, List.getElem_toArray, List.getElem_cons_zero, List.setIfInBounds_toArray, List.set_cons_zero, List.set_cons_succ])
  refine wpAnyH_take (i := 1) (v := .int .i64 (j : Nat)) rfl (by kernel_rfl) (by kernel_rfl) (by kernel_rfl) (fun _ _ _ h => hp _ _ _ _ _ h) (Or.inl ⟨by rfl, ?_⟩) (by assumption) ?_
  · intro w hSw
    (try dsimp only at hSw)
    go_simp
  (try simp only [Act.put, List.getElem_toArray, List.getElem_cons_zero, List.getElem_cons_succ, List.setIfInBounds_toArray, List.set_cons_zero, List.set_cons_succ])
  refine wpAnyH_take (i := 2) (v := .pointer (some ⟨b, o + j, none⟩)) rfl (by kernel_rfl) (by kernel_rfl) (by kernel_rfl) (fun _ _ _ h => hp _ _ _ _ _ h) (Or.inl ⟨by rfl, ?_⟩) (by assumption) ?_
  · intro w hSw
    (try dsimp only at hSw)
    go_simp
  (try simp only [Act.put, List.getElem_toArray, List.getElem_cons_zero, List.getElem_cons_succ, List.setIfInBounds_toArray, List.set_cons_zero, List.set_cons_succ])
  refine wpAnyH_take (i := 3) (v := .string mt) rfl (by kernel_rfl) (by kernel_rfl) (by kernel_rfl) (fun _ _ _ h => hp _ _ _ _ _ h) (Or.inl ⟨by rfl, ?_⟩) (by assumption) ?_
  · intro w hSw
    (try dsimp only at hSw)
    go_simp
  (try simp only [Act.put, List.getElem_toArray, List.getElem_cons_zero, List.getElem_cons_succ, List.setIfInBounds_toArray, List.set_cons_zero, List.set_cons_succ])
  refine wpAnyH_take (i := 4) (v := .int .i64 (k : Nat)) rfl (by kernel_rfl) (by kernel_rfl) (by kernel_rfl) (fun _ _ _ h => hp _ _ _ _ _ h) (Or.inl ⟨by rfl, ?_⟩) (by assumption) ?_
  · intro w hSw
    (try dsimp only at hSw)
    go_simp
  (try simp only [Act.put, List.getElem_toArray, List.getElem_cons_zero, List.getElem_cons_succ, List.setIfInBounds_toArray, List.set_cons_zero, List.set_cons_succ])
  clear hS0 hHeld
  refine wpAnyH_ready (rs := [5]) (by kernel_rfl) (by simp) ?_
  refine AllReadyH.cons rfl (fun K hK => ?_) AllReadyH.nil
  go_simp
  refine HM.mono ?_
  rintro r w1 ⟨rfl, hb1⟩
  have hB1 := hB0.trans (hb1.mono hB0.size)
  go_wp2_with fail
  refine hK.out _ _ (HS.out _ hB1) (fun hHeld => ?_)
  clear hK K
  refine wpAnyH_take (i := 6) (v := .bool false) rfl (by kernel_rfl) (by kernel_rfl) (by kernel_rfl) (fun _ _ _ h => hp _ _ _ _ _ h) (Or.inl ⟨by rfl, ?_⟩) (by assumption) ?_
  · intro w hSw
    (try dsimp only at hSw)
    (go_simp <;> simp)
  (try simp only [Act.put, List.getElem_toArray, List.getElem_cons_zero, List.getElem_cons_succ, List.setIfInBounds_toArray, List.set_cons_zero, List.set_cons_succ])
  refine wpAnyH_done (by kernel_rfl) ?_ _
  exact h _ _ _ _ _ _ _ hB1
set_option maxRecDepth 100000 in
set_option maxHeartbeats 1000000 in
theorem heldStringS_any (n : Nat) (a : Option Addr) (c k : Nat) (w : World) (hs : SIn w (marks k n) a) (hc : n ≤ c ∧ c ≤ maxLen) (hn : n ≤ 1100000) (hk : k ≤ 100000000) :
    Calls Try.prog 26 #[.slice a n c, .int .i64 (k : Nat)] w fun r w' => r = .returned (.int .i64 ((k + n : Nat) : Int)) ∧ Below w.heap.size w w' := by
  have hcm : c ≤ 2 ^ 63 - 1 := hc.2
  have HS : Hid (∀ j, j < n → ∃ b o, a = some ⟨b, o, none⟩ ∧ w.cell? ⟨b, o + j, none⟩ = some (.string (mtext (k + j)))) := fun j hj => by
    rcases hs with h0 | ⟨b, o, e, hs⟩
    · have := congrArg List.length h0
      rw [marks_len] at this
      simp at this
      omega
    · exact ⟨b, o, e, (hs.at (marks_at n k j hj)).1⟩
  clear hs
  go_enter Try.func26, Try.ntmps26
  go_wp2_with fail
  go_loopw [1, 5] (fun kk i wr => ∃ (j : Nat), kk = .int .i64 ((k + j : Nat) : Int) ∧ i = .int .i64 j ∧ j ≤ n ∧ Below w.heap.size w wr) (fun _ i _ => n - (intOf i).toNat)
  case atStart => exact ⟨0, by simp, rfl, Nat.zero_le _, Below.refl _ _⟩
  case round =>
    obtain ⟨j, rfl, rfl, hj, hb⟩ := hrel
    by_cases hlt : j < n
    · have hlt' : (j : Int) < (n : Int) := by omega
      obtain ⟨b, o, rfl, hcell⟩ := HS.out j hlt
      have hcell2 : wr.cell? ⟨b, o + j, none⟩ = some (.string (mtext (k + j))) := (hb.cell (p := ⟨b, o + j, none⟩) (World.block_lt_of_cell? w _ hcell)).trans hcell
      clear hcell
      go_wp2_with fail
      refine hs4 (k := k + j) hcell2 hlt (by omega) (fun _ d _ _ _ h => by cases d <;> exact h) ?_
      intro ws v12 v13 v14 v15 v16 v17 hb1
      have hb2 := hb.trans (hb1.mono hb.size)
      clear hcell2 hb hb1
      go_wp2_with fail
      go_round
      case rel => exact ⟨j + 1, by go_num, by go_num, by omega, hb2⟩
      case measure => simp [intOf]; omega
    · have hje : j = n := by omega
      have hlt' : ¬ (j : Int) < (n : Int) := by omega
      subst hje
      go_wp2_with fail
      go_ret
      exact ⟨rfl, hb⟩
end Go.Proofs.Ytmghhcdhjjhbeaa
/- All papers that a tree takes in, by the specification: l6Imports, Imports. -/
namespace Go.Proofs.Ytmghhcdhjjhbeaa
open Go.RowKit
attribute [local go_sem] cell_alloc_is frozen_alloc_is
/-- the papers of a list of trees, put among others -/
def Fo.imps : Fo → List ByteArray → List ByteArray
  | .nil, ns => ns
  | .cons k t _ _ _ _ kids next, ns => next.imps (if k = 9 then put1 t ns else kids.imps ns)
def imp1 (k : Int) (t : ByteArray) (F : Fo) (ns : List ByteArray) : List ByteArray := if k = 9 then put1 t ns else F.imps ns
theorem imps_len : ∀ (F : Fo) (ns : List ByteArray), (F.imps ns).length ≤ ns.length + F.size := by
  intro F
  induction F with
  | nil => intro ns; exact Nat.le_refl _
  | cons k t m e a c kids next ih1 ih2 =>
    intro ns
    have h1 := ih1 ns
    have h2 := put1_len t ns
    have e2 : (Fo.cons k t m e a c kids next).size = kids.size + 1 + next.size := rfl
    obtain ⟨x, hx, hl⟩ : ∃ x, (if k = 9 then put1 t ns else kids.imps ns) = x ∧ x.length ≤ ns.length + kids.size + 1 := ⟨_, rfl, by split <;> omega⟩
    have h3 := ih2 x
    show (next.imps (if k = 9 then put1 t ns else kids.imps ns)).length ≤ _
    rw [hx, e2]
    omega
theorem imp1_len (k : Int) (t : ByteArray) (F : Fo) (ns : List ByteArray) : (imp1 k t F ns).length ≤ ns.length + F.size + 1 := by
  have h1 := imps_len F ns
  have h2 := put1_len t ns
  unfold imp1
  split <;> omega
theorem alike_imps : ∀ {F G : Fo}, F.alike G → ∀ ns, F.imps ns = G.imps ns := by
  intro F G
  induction G generalizing F with
  | nil => intro h ns; rw [Fo.alike_nil h]
  | cons k t m e a c kids next ih1 ih2 =>
    intro h ns
    obtain ⟨a', c', kids', next', rfl, h1, h2⟩ := Fo.alike_cons h
    show next'.imps (if k = 9 then put1 t ns else kids'.imps ns) = next.imps (if k = 9 then put1 t ns else kids.imps ns)
    rw [ih1 h1, ih2 h2]
set_option maxHeartbeats 1000000 in
theorem l6Imports_all (N : Nat) : ∀ (k : Int) (t : ByteArray) (m e : Int) (a : Option Addr) (c : Nat) (F : Fo) (ns : List ByteArray) (ao : Option Addr) (co : Nat) (w : World), F.size < N → F.In w a → F.len ≤ c → c ≤ maxLen → t.size ≤ maxLen → SIn w ns ao → ns.length ≤ co ∧ co ≤ maxLen → ns.length + F.size + 1 ≤ 1060000 →
    Calls Try.prog 53 #[nodeV k t m e a F.len c, .slice ao ns.length co] w fun r w' => (∃ a' c', r = .returned (.slice a' (imp1 k t F ns).length c') ∧ SIn w' (imp1 k t F ns) a' ∧ ((imp1 k t F ns).length ≤ c' ∧ c' ≤ maxLen)) ∧ Below w.heap.size w w' := by
  induction N with
  | zero => intro k t m e a c F ns ao co w hF; omega
  | succ N ih =>
    intro k t m e a c F ns ao co w hF hin hl hc ht hS hco hsz
    have hll := F.len_le
    have hc2 : c ≤ 2 ^ 63 - 1 := hc
    have hb0 : Below w.heap.size w (w.alloc (.cells #[.int .i64 k, .string t, .int .i64 m, .int .i64 e, .slice a F.len c] 47)) := (Below.refl _ _).alloc (Nat.le_refl _) _
    by_cases hk : k = 9
    · have hI : Hid (imp1 k t F ns = put1 t ns) := if_pos hk
      have hk9 : (k == 9) = true := by simp [hk]
      have hp := l6Put_any ns ao co t _ (hS.grow hb0) hco (by omega) ht
      clear hk hin ih
      go_enter Try.func53, Try.ntmps53
      go_wp2_with fail
      refine hp.mono ?_
      rintro r w1 ⟨⟨a', c', rfl, h1, h2⟩, hb1⟩
      have HB := hb0.trans (hb1.mono hb0.size)
      clear hp hb0 hb1
      go_wp2_with fail
      go_ret
      rw [hI.out]
      exact ⟨⟨a', c', rfl, h1, h2⟩, HB⟩
    · have hI : Hid (imp1 k t F ns = F.imps ns) := if_neg hk
      have hk9 : (k == 9) = false := by simp [hk]
      clear hk
      go_enter Try.func53, Try.ntmps53
      go_wp2_with fail
      go_loopw [1, 5] (fun o i wr => ∃ (j : Nat) (G : Fo) (nj : List ByteArray) (aj : Option Addr) (cj : Nat), i = .int .i64 j ∧ o = .slice aj nj.length cj ∧ j + G.len = F.len ∧ (nj.length + G.size ≤ ns.length + F.size ∧ G.size ≤ F.size ∧ G.imps nj = F.imps ns) ∧ (SIn wr nj aj ∧ nj.length ≤ cj ∧ cj ≤ maxLen) ∧ (G = .nil ∨ ∃ b o', a = some ⟨b, o', none⟩ ∧ G.From wr b (o' + j * 5)) ∧ wr.cell? ⟨w.heap.size, 4, none⟩ = some (.slice a F.len c) ∧ Below w.heap.size w wr) (fun _ i _ => F.len - (intOf i).toNat)
      case atStart =>
        refine ⟨0, F, ns, ao, co, rfl, rfl, by omega, ⟨by omega, Nat.le_refl _, rfl⟩, ⟨hS.grow hb0, hco⟩, ?_, by simp, hb0⟩
        rcases hin with h | ⟨b, o', e1, e2⟩
        · exact .inl h
        · exact .inr ⟨b, o', e1, by simpa using Fo.from_grow hb0 F b o' e2⟩
      case round =>
        obtain ⟨j, G, nj, aj, cj, rfl, rfl, hj, ⟨hq1, hq2, hq3⟩, ⟨hSj, hcj⟩, hG, hcell, hb⟩ := hrel
        have HQ : Hid (G.imps nj = F.imps ns) := hq3
        have hcj2 : cj ≤ 2 ^ 63 - 1 := hcj.2
        have hcj1 := hcj.1
        clear hq3
        cases G with
        | nil =>
          have hj' : j = F.len := by simpa [Fo.len] using hj
          have hlt : ¬ (j : Int) < (F.len : Int) := by omega
          have HF : Hid (SIn wr (imp1 k t F ns) aj ∧ ((imp1 k t F ns).length ≤ cj ∧ cj ≤ maxLen) ∧ nj.length = (imp1 k t F ns).length) := by
            have e : nj = F.imps ns := HQ.out
            unfold Hid
            rw [hI.out, ← e]
            exact ⟨hSj, hcj, rfl⟩
          clear hG hj hj' hSj hcj hS hin ih hb0 hq1 hq2
          go_wp2_with fail
          go_ret
          obtain ⟨f1, f2, f3⟩ := HF.out
          exact ⟨⟨aj, cj, (by rw [f3]; rfl), f1, f2⟩, hb⟩
        | cons k' t' m' e' a' c' kids next =>
          rcases hG with hG | ⟨b, o', rfl, ⟨h1, h2, h3, h4, h5⟩, hk, hc1, hc3, ht', hn⟩
          · cases hG
          · have hlt : (j : Int) < (F.len : Int) := by have : j + (next.len + 1) = F.len := hj; omega
            have hjl : j < F.len := by omega
            have hsz2 : nj.length + (kids.size + 1 + next.size) ≤ ns.length + F.size := hq1
            have hsz3 : kids.size + 1 + next.size ≤ F.size := hq2
            have hln : j + (next.len + 1) = F.len := hj
            have HC := ih k' t' m' e' a' c' kids nj aj cj wr (by omega) hk hc1 hc3 ht' hSj hcj (by omega)
            have HQ2 : Hid (next.imps (imp1 k' t' kids nj) = F.imps ns) := HQ.out
            have hle := imp1_len k' t' kids nj
            have HL : Hid ((imp1 k' t' kids nj).length ≤ nj.length + kids.size + 1) := hle
            clear hj hin hq1 hq2 hS hb0 ih HQ hSj hcj hle hk
            go_wp2_with fail
            refine HC.mono ?_
            rintro r w1 ⟨⟨a2, c2, rfl, hS2, hcc2⟩, hb1⟩
            have hn1 := Fo.from_grow hb1 next b _ hn
            have hz := hb.size
            have hlw := World.block_lt_of_cell? wr _ hcell
            have hcell1 : w1.cell? ⟨w.heap.size, 4, none⟩ = some (.slice (some ⟨b, o', none⟩) F.len c) := (hb1.cell (p := ⟨w.heap.size, 4, none⟩) hlw).trans hcell
            have hb2 := hb.trans (hb1.mono hz)
            clear h1 h2 h3 h4 h5 hn hcell hb1 hb HC
            go_wp2_with fail
            go_round
            case rel =>
              refine ⟨j + 1, next, imp1 k' t' kids nj, a2, c2, by go_num, rfl, by omega, ⟨by have := HL.out; omega, by omega, HQ2.out⟩, ⟨hS2, hcc2⟩, .inr ⟨b, o', rfl, ?_⟩, hcell1, hb2⟩
              rw [show o' + (j + 1) * 5 = o' + j * 5 + 5 by omega]; exact hn1
            case measure => simp [intOf]; omega
/-- the papers of a tree -/
noncomputable def impsOf (k : Int) (t : ByteArray) (m e : Int) (F : Fo) : List ByteArray := by
  classical
  exact if ¬ k = 23 ∧ TreeGood k t m e F then imp1 k t F [] else []
theorem impsOf_yes {k : Int} {t : ByteArray} {m e : Int} {F : Fo} (h : ¬ k = 23 ∧ TreeGood k t m e F) : impsOf k t m e F = imp1 k t F [] := by
  unfold impsOf; exact if_pos h
theorem impsOf_no {k : Int} {t : ByteArray} {m e : Int} {F : Fo} (h : ¬ (¬ k = 23 ∧ TreeGood k t m e F)) : impsOf k t m e F = [] := by
  unfold impsOf; exact if_neg h
theorem sImports_any (k : Int) (t : ByteArray) (m e : Int) (a : Option Addr) (c : Nat) (F : Fo) (w : World) (hF : F.size ≤ 1050000) (hin : F.In w a) (hl : F.len ≤ c) (hc : c ≤ maxLen) (ht : t.size ≤ maxLen) :
    Calls Try.prog 21 #[nodeV k t m e a F.len c] w fun r w' => (∃ a' c', r = .returned (.slice a' (impsOf k t m e F).length c') ∧ SIn w' (impsOf k t m e F) a' ∧ ((impsOf k t m e F).length ≤ c' ∧ c' ≤ maxLen)) ∧ Below w.heap.size w w' := by
  have hb0 : Below w.heap.size w (w.alloc (.cells #[.int .i64 k, .string t, .int .i64 m, .int .i64 e, .slice a F.len c] 47)) := (Below.refl _ _).alloc (Nat.le_refl _) _
  have A0 : Row (w.alloc (.cells #[.int .i64 k, .string t, .int .i64 m, .int .i64 e, .slice a F.len c] 47)) w.heap.size [.int .i64 k, .string t, .int .i64 m, .int .i64 e, .slice a F.len c] := Row.new w _ _
  have HI := hin.grow hb0
  go_enter Try.func21, Try.ntmps21
  go_wp2_with fail
  refine (sTreeOk_any k t m e a c F _ (by omega) HI hl hc ht).mono ?_
  rintro r w1 ⟨⟨q, rfl, hq⟩, hb1⟩
  have A1 := A0.below hb1 A0.lt
  have HI1 := HI.grow hb1
  have hB1 := hb0.trans (hb1.mono hb0.size)
  have HQ : Hid (q = true ↔ (¬ k = 23 ∧ TreeGood k t m e F)) := hq
  clear hq hb0 hb1 HI A0 hin
  generalize w.heap.size = vb at A1
  have y0 := (A1 0 _ rfl).1
  have y1 := (A1 1 _ rfl).1
  have y2 := (A1 2 _ rfl).1
  have y3 := (A1 3 _ rfl).1
  have y4 := (A1 4 _ rfl).1
  cases q
  · have HN : Hid (impsOf k t m e F = []) := impsOf_no fun h => by have := HQ.out.2 h; cases this
    clear HQ HI1 y0 y1 y2 y3 y4 A1
    go_wp2_with fail
    go_ret
    rw [HN.out]
    exact ⟨⟨_, 0, rfl, .inl rfl, Nat.le_refl _, Nat.zero_le _⟩, hB1.alloc hB1.size _⟩
  · have HN : Hid (impsOf k t m e F = imp1 k t F []) := impsOf_yes (HQ.out.1 rfl)
    have hb2 : Below w1.heap.size w1 (w1.alloc (.cells #[] 9)) := (Below.refl _ _).alloc (Nat.le_refl _) _
    have HC := l6Imports_all (F.size + 1) k t m e a c F [] (some ⟨w1.heap.size, 0, none⟩) 0 _ (Nat.lt_succ_self _) (HI1.grow hb2) hl hc ht (.inl rfl) ⟨Nat.le_refl _, Nat.zero_le _⟩ (by show 0 + F.size + 1 ≤ 1060000; omega)
    have hB2 := hB1.trans (hb2.mono hB1.size)
    clear HQ HI1 A1 hb2 hB1
    go_wp2_with fail
    refine HC.mono ?_
    rintro r w2 ⟨⟨a2, c2, rfl, h1, h2⟩, hb3⟩
    have HF : Hid (SIn w2 (imp1 k t F []) a2 ∧ ((imp1 k t F []).length ≤ c2 ∧ c2 ≤ maxLen)) := ⟨h1, h2⟩
    have hB3 := hB2.trans (hb3.mono hB2.size)
    clear HC h1 h2 hB2 hb3 y0 y1 y2 y3 y4
    go_wp2_with fail
    go_ret
    rw [HN.out]
    exact ⟨⟨a2, c2, rfl, HF.out⟩, hB3⟩
end Go.Proofs.Ytmghhcdhjjhbeaa
/- A range over all trees in a tree: what a round keeps, but for lists of texts that were made in it. -/
namespace Go.Proofs.Ytmghhcdhjjhbeaa
open Go.RowKit
/-- a tree that is told, with how deep it stands; what is below it lies in the world w; its texts are no longer than this -/
structure TIX (w : World) where
  d : Nat
  k : Int
  t : ByteArray
  m : Int
  e : Int
  a : Option Addr
  kids : Fo
  c : Nat
  hin : kids.In w a
  hl : kids.len ≤ c
  hc : c ≤ maxLen
  ht : t.size ≤ maxLen
  hw : t.size ≤ 1048576 ∧ kids.wt ≤ 1048576
def TIX.raw {w : World} (x : TIX w) : Nat × Int × ByteArray × Int × Int × Fo := (x.d, x.k, x.t, x.m, x.e, x.kids)
def TIX.enc {w : World} (x : TIX w) : Array Value := #[.int .i64 x.d, .agg #[.int .i64 x.k, .string x.t, .int .i64 x.m, .int .i64 x.e, .slice x.a x.kids.len x.c]]
theorem fo_wt_le {k : Int} {t : ByteArray} {m e : Int} {a : Option Addr} {c : Nat} {kids next : Fo} {n : Nat} (h : (Fo.cons k t m e a c kids next).wt ≤ n) : t.size ≤ n ∧ kids.wt ≤ n ∧ next.wt ≤ n := by
  have e : (Fo.cons k t m e a c kids next).wt = t.size + kids.wt + 1 + next.wt := rfl
  omega
/-- a block that is no list of texts -/
def notText : Obj → Bool
  | .cells _ t _ => t != 9
  | _ => true
/-- what a round keeps: the cells that lay ahead of the caller, and those that were made since the loop began, but for lists of texts -/
def KeptX (n0 n1 : Nat) (W W' : World) : Prop := W.heap.size ≤ W'.heap.size ∧ ∀ j o, W.heap[j]? = some o → o.isCells = true → (j < n0 ∨ (n1 ≤ j ∧ notText o = true)) → W'.heap[j]? = some o
theorem KeptX.refl (n0 n1 : Nat) (W : World) : KeptX n0 n1 W W := ⟨Nat.le_refl _, fun _ _ h _ _ => h⟩
theorem KeptX.trans {n0 n1 : Nat} {A B C : World} (h : KeptX n0 n1 A B) (k : KeptX n0 n1 B C) : KeptX n0 n1 A C := ⟨Nat.le_trans h.1 k.1, fun j o ho hc hj => k.2 j o (h.2 j o ho hc hj) hc hj⟩
theorem KeptX.of_below {n0 n1 : Nat} {W W' : World} (h : Below W.heap.size W W') : KeptX n0 n1 W W' := ⟨h.size, fun j _ ho _ _ => (h.block j (Array.getElem?_eq_some_iff.1 ho).1).trans ho⟩
theorem KeptX.cell {n0 n1 : Nat} {W W' : World} (h : KeptX n0 n1 W W') {b o : Nat} {v : Value} (hv : W.cell? ⟨b, o, none⟩ = some v) (hb : b < n0 ∨ (n1 ≤ b ∧ ∀ o, W.heap[b]? = some o → notText o = true)) : W'.cell? ⟨b, o, none⟩ = some v := by
  obtain ⟨x, hx, hc⟩ := cells_of_cell hv
  exact (World.cell?_of_block ((h.2 b x hx hc (by rcases hb with hb | ⟨h1, h2⟩; exact .inl hb; exact .inr ⟨h1, h2 x hx⟩)).trans hx.symm)).trans hv
theorem KeptX.sub {n0 n1 : Nat} {w W W' : World} (h : KeptX n0 n1 W W') (hs : Sub w W) (hn : w.heap.size ≤ n0) : Sub w W' := fun b o v hv =>
  h.cell (hs b o v hv) (.inl (Nat.lt_of_lt_of_le (World.block_lt_of_cell? w _ hv) hn))
set_option maxRecDepth 100000 in
set_option maxHeartbeats 2000000 in
theorem tell_inX (w0 : World) (l n0 n1 N B : Nat) (J Jx : List (TIX w0) → World → Prop) (hJ : AbidesFrom B J) (hn0 : w0.heap.size ≤ n0)
    (hY : ∀ (q : Nat) (pre : List (TIX w0)) (x : TIX w0) (W : World), J pre W → pre.length < N → YieldAt Fence.wide q Try.prog l x.enc W fun e W' =>
      (e = .returned (.bool true) ∧ J (pre ++ [x]) W' ∧ KeptX n0 n1 W W') ∨ (e = .returned (.bool false) ∧ Jx (pre ++ [x]) W')) (M : Nat) :
    ∀ (n : Nat) (x : TIX w0) (pre : List (TIX w0)) (W : World), x.kids.size < M → x.d + x.kids.size ≤ 1000000000 → n1 ≤ W.heap.size → Sub w0 W → J pre W → pre.length + (x.kids.size + 1) ≤ N →
      CallsIn Fence.wide n Try.prog 117 #[.agg #[.int .i64 x.k, .string x.t, .int .i64 x.m, .int .i64 x.e, .slice x.a x.kids.len x.c], .int .i64 x.d, .func (.yield l) #[] #[]] W fun e W' =>
        (e = .returned (.bool true) ∧ (∃ ys : List (TIX w0), ys.map TIX.raw = x.raw :: x.kids.flat (x.d + 1) ∧ J (pre ++ ys) W') ∧ KeptX n0 n1 W W') ∨
        (e = .returned (.bool false) ∧ ∃ ys : List (TIX w0), ys.map TIX.raw <+: (x.raw :: x.kids.flat (x.d + 1)) ∧ Jx (pre ++ ys) W') := by
  induction M with
  | zero => intro n x pre W h; omega
  | succ M ih =>
    intro n x pre W hM hd hn1 hsub hJ0 hN
    have hcc := x.hc
    unfold maxLen at hcc
    have hlc := x.hl
    have hll := x.kids.len_le
    have hin := x.hin
    have hsz1 : W.heap.size < (W.alloc (.cells #[.int .i64 x.k, .string x.t, .int .i64 x.m, .int .i64 x.e, .slice x.a x.kids.len x.c] 47)).heap.size := by simp
    have hb0 : Below W.heap.size W (W.alloc (.cells #[.int .i64 x.k, .string x.t, .int .i64 x.m, .int .i64 x.e, .slice x.a x.kids.len x.c] 47)) := (Below.refl _ W).alloc (Nat.le_refl _) _
    have hJ1 := hJ _ _ _ none hJ0 (grown_below hb0) (fun r e => by cases e)
    obtain ⟨fn, tmps, assign, body, hy, hR⟩ := hY (n - 1) pre x _ hJ1 (by omega)
    dsimp only [TIX.enc] at hy
    refine callsIn_of_wp Try.func117 rfl trivial ?_ rfl
    simp only [Try.ntmps117, List.size_toArray, List.length_cons, List.length_nil, Nat.reduceAdd, Nat.reduceSub, Array.replicate_succ, Array.replicate_zero, List.push_toArray, List.append_toArray, List.nil_append, List.cons_append]
    gi_wp2
    refine ⟨fun h => (by cases h), hR.mono ?_⟩
    clear hR hy
    have c0 : (W.alloc (.cells #[.int .i64 x.k, .string x.t, .int .i64 x.m, .int .i64 x.e, .slice x.a x.kids.len x.c] 47)).cell? ⟨W.heap.size, 0, none⟩ = some (.int .i64 x.k) := by simp
    have c1 : (W.alloc (.cells #[.int .i64 x.k, .string x.t, .int .i64 x.m, .int .i64 x.e, .slice x.a x.kids.len x.c] 47)).cell? ⟨W.heap.size, 1, none⟩ = some (.string x.t) := by simp
    have c2 : (W.alloc (.cells #[.int .i64 x.k, .string x.t, .int .i64 x.m, .int .i64 x.e, .slice x.a x.kids.len x.c] 47)).cell? ⟨W.heap.size, 2, none⟩ = some (.int .i64 x.m) := by simp
    have c3 : (W.alloc (.cells #[.int .i64 x.k, .string x.t, .int .i64 x.m, .int .i64 x.e, .slice x.a x.kids.len x.c] 47)).cell? ⟨W.heap.size, 3, none⟩ = some (.int .i64 x.e) := by simp
    have c4 : (W.alloc (.cells #[.int .i64 x.k, .string x.t, .int .i64 x.m, .int .i64 x.e, .slice x.a x.kids.len x.c] 47)).cell? ⟨W.heap.size, 4, none⟩ = some (.slice x.a x.kids.len x.c) := by simp
    have hnt : ∀ o, (W.alloc (.cells #[.int .i64 x.k, .string x.t, .int .i64 x.m, .int .i64 x.e, .slice x.a x.kids.len x.c] 47)).heap[W.heap.size]? = some o → notText o = true := fun o h => by
      rw [World.alloc_heap_new] at h
      cases h
      rfl
    generalize W.alloc (.cells #[.int .i64 x.k, .string x.t, .int .i64 x.m, .int .i64 x.e, .slice x.a x.kids.len x.c] 47) = W1 at *
    rintro r W2 (⟨rfl, hJ2, hk2⟩ | ⟨rfl, hx2⟩)
    · have d0 := hk2.cell c0 (.inr ⟨hn1, hnt⟩)
      have d1 := hk2.cell c1 (.inr ⟨hn1, hnt⟩)
      have d2 := hk2.cell c2 (.inr ⟨hn1, hnt⟩)
      have d3 := hk2.cell c3 (.inr ⟨hn1, hnt⟩)
      have d4 := hk2.cell c4 (.inr ⟨hn1, hnt⟩)
      have K2 : KeptX n0 n1 W W2 := (KeptX.of_below hb0).trans hk2
      clear c0 c1 c2 c3 c4 hnt hJ1 hk2 hb0 hsz1 hJ0
      have hmeth := below_method
      gi_wp2
      refine ⟨trivial, fun h => (by cases h), (callsIn_wide.2 (below_any _ _ _ _ _ _ _ _ _ rfl)).mono ?_⟩
      rintro r W3 ⟨rfl, hb3⟩
      have hJ3 := hJ _ _ _ none hJ2 (grown_below hb3) (fun r e => by cases e)
      have K3 : KeptX n0 n1 W W3 := K2.trans (KeptX.of_below hb3)
      clear d0 d1 d2 d3 d4 hb3 hJ2 K2 hmeth
      gi_wp2
      gi_loopw [18] (fun i wr => ∃ (j : Nat) (ys : List (TIX w0)) (G : Fo), i = .int .i64 j ∧ j + G.len = x.kids.len ∧ (G.size ≤ x.kids.size ∧ G.wt ≤ x.kids.wt) ∧ ys.map TIX.raw ++ G.flat (x.d + 1) = x.raw :: x.kids.flat (x.d + 1) ∧ (G = .nil ∨ ∃ b o, x.a = some ⟨b, o, none⟩ ∧ G.From w0 b (o + j * 5)) ∧ J (pre ++ ys) wr ∧ KeptX n0 n1 W wr) (fun i _ => x.kids.len - (intOf i).toNat)
      case atStart =>
        refine ⟨0, [x], x.kids, rfl, by omega, ⟨Nat.le_refl _, Nat.le_refl _⟩, rfl, ?_, hJ3, K3⟩
        rcases hin with h | ⟨b, o, e1, e2⟩
        · exact .inl h
        · exact .inr ⟨b, o, e1, by simpa using e2⟩
      case round =>
        obtain ⟨j, ys, G, rfl, hj, ⟨hs, hsw⟩, hflat, hG, hJs, hK⟩ := hrel
        cases G with
        | nil =>
          have hj' : j = x.kids.len := by simpa [Fo.len] using hj
          have hf' : ys.map TIX.raw = x.raw :: x.kids.flat (x.d + 1) := by simpa [Fo.flat] using hflat
          have hlt : ¬ (j : Int) < (x.kids.len : Int) := by omega
          clear hG hj hflat
          gi_wp2
          refine bodyPost_ret (results_tmp rfl _ _ _) rfl (.inl ⟨rfl, ⟨ys, hf', hJs⟩, hK⟩)
        | cons k' t' m' e' a' c' kids next =>
          rcases hG with hG | ⟨b, o, ha, hcells, hk, hc1, hc2, ht', hn⟩
          · cases hG
          have hln : j + (next.len + 1) = x.kids.len := hj
          have hsz : kids.size + 1 + next.size ≤ x.kids.size := hs
          have hwt := fo_wt_le hsw
          have hxw := x.hw
          have hlt : (j : Int) < (x.kids.len : Int) := by omega
          have hjl : j < x.kids.len := by omega
          have hyl : ys.length + (kids.size + 1 + next.size) = 1 + x.kids.size := by
            have := congrArg List.length hflat
            simp [Fo.flat_len] at this
            have h2 : (Fo.cons k' t' m' e' a' c' kids next).size = kids.size + 1 + next.size := rfl
            omega
          have hsubw : Sub w0 wr := hK.sub hsub hn0
          obtain ⟨h1, h2, h3, h4, h5⟩ := hcells
          have g1 := hsubw _ _ _ h1
          have g2 := hsubw _ _ _ h2
          have g3 := hsubw _ _ _ h3
          have g4 := hsubw _ _ _ h4
          have g5 := hsubw _ _ _ h5
          rw [ha] at *
          clear h1 h2 h3 h4 h5 hj hs
          have hbA : Below wr.heap.size wr (wr.alloc (.cells #[.int .i64 k', .string t', .int .i64 m', .int .i64 e', .slice a' kids.len c'] 47)) := (Below.refl _ wr).alloc (Nat.le_refl _) _
          have KA : KeptX n0 n1 wr _ := KeptX.of_below hbA
          have HI := ih (n - 1) ⟨x.d + 1, k', t', m', e', a', kids, c', hk, hc1, hc2, ht', ⟨by omega, by omega⟩⟩ (pre ++ ys) (wr.alloc (.cells #[.int .i64 k', .string t', .int .i64 m', .int .i64 e', .slice a' kids.len c'] 47))
            (by show kids.size < M; omega) (by show x.d + 1 + kids.size ≤ 1000000000; omega) (by have := hK.1; simp; omega) (KA.sub hsubw hn0) (hJ _ _ _ none hJs (grown_below hbA) (fun r e => by cases e)) (by show (pre ++ ys).length + (kids.size + 1) ≤ N; rw [List.length_append]; omega)
          have hfl : ys.map TIX.raw ++ ((x.d + 1, k', t', m', e', kids) :: (kids.flat (x.d + 1 + 1) ++ next.flat (x.d + 1))) = x.raw :: x.kids.flat (x.d + 1) := hflat
          gi_wp2
          refine ⟨trivial, fun h => (by cases h), HI.mono ?_⟩
          clear HI ih hflat g1 g2 g3 g4 g5
          rintro r W4 (⟨rfl, ⟨zs, hz, hJz⟩, hKz⟩ | ⟨rfl, zs, hz, hxz⟩)
          · have hK4 : KeptX n0 n1 W W4 := (hK.trans KA).trans hKz
            have hJ4 : J (pre ++ (ys ++ zs)) W4 := by rw [← List.append_assoc]; exact hJz
            have hf4 : (ys ++ zs).map TIX.raw ++ next.flat (x.d + 1) = x.raw :: x.kids.flat (x.d + 1) := by
              rw [← hfl, List.map_append, hz]; simp [TIX.raw]
            clear hJs hK KA hKz hJz hfl hz hsubw hbA
            gi_wp2
            go_roundw
            case rel =>
              refine ⟨j + 1, ys ++ zs, next, by go_num, by omega, ⟨by omega, by omega⟩, hf4, .inr ⟨b, o, rfl, ?_⟩, hJ4, hK4⟩
              rw [show o + (j + 1) * 5 = o + j * 5 + 5 by omega]; exact hn
            case measure => simp [intOf]; omega
          · have hx4 : Jx (pre ++ (ys ++ zs)) W4 := by rw [← List.append_assoc]; exact hxz
            have hf4 : (ys ++ zs).map TIX.raw <+: (x.raw :: x.kids.flat (x.d + 1)) := by
              obtain ⟨tl, htl⟩ := hz
              refine ⟨tl ++ next.flat (x.d + 1), ?_⟩
              rw [← hfl, List.map_append, List.append_assoc, ← List.append_assoc (zs.map TIX.raw), htl]; simp [TIX.raw]
            clear hJs hK KA hxz hfl hz hsubw hbA
            gi_wp2
            refine bodyPost_ret (results_tmp rfl _ _ _) rfl (.inr ⟨rfl, ys ++ zs, hf4, hx4⟩)
    · gi_wp2
      refine bodyPost_ret (results_tmp rfl _ _ _) rfl (.inr ⟨rfl, [x], ?_, hx2⟩)
      exact ⟨x.kids.flat (x.d + 1), rfl⟩

set_option maxHeartbeats 1000000 in
/-- the function that allOf hands back tells the tree and all below it -/
theorem all_stopsX (w0 : World) (n n0 n1 Bt : Nat) (x : TIX w0) (w : World) (hd : x.d = 1) (hx : x.kids.size ≤ 2000000) (hn0 : w0.heap.size ≤ n0) (hn1 : n1 ≤ w.heap.size) (hsub : Sub w0 w)
    (c0 : w.cell? ⟨Bt, 0, none⟩ = some (.int .i64 x.k)) (c1 : w.cell? ⟨Bt, 1, none⟩ = some (.string x.t)) (c2 : w.cell? ⟨Bt, 2, none⟩ = some (.int .i64 x.m)) (c3 : w.cell? ⟨Bt, 3, none⟩ = some (.int .i64 x.e)) (c4 : w.cell? ⟨Bt, 4, none⟩ = some (.slice x.a x.kids.len x.c)) :
    SeqStopsK Fence.wide n Try.prog 116 #[.pointer (some ⟨Bt, 0, none⟩)] (fun y : TIX w0 => y.enc) (KeptX n0 n1) (fun ys => ys.map TIX.raw = x.raw :: x.kids.flat 2) (fun ys => ys.map TIX.raw <+: (x.raw :: x.kids.flat 2)) (x.kids.size + 1) w := fun l J Jx W hW hJ hJx hY h0 => by
  have hB := World.block_lt_of_cell? w _ c0
  have C0 := (hW.cell (p := ⟨Bt, 0, none⟩) hB).trans c0
  have C1 := (hW.cell (p := ⟨Bt, 1, none⟩) hB).trans c1
  have C2 := (hW.cell (p := ⟨Bt, 2, none⟩) hB).trans c2
  have C3 := (hW.cell (p := ⟨Bt, 3, none⟩) hB).trans c3
  have C4 := (hW.cell (p := ⟨Bt, 4, none⟩) hB).trans c4
  have hs := hW.size
  have HT := tell_inX w0 l n0 n1 (x.kids.size + 1) _ J Jx hJ hn0 (fun q pre y W1 h1 h2 => yieldAt_any rfl q (hY pre y W1 h1 h2)) (x.kids.size + 1) (n - 1) x [] W (by omega) (by omega) (by omega) (fun b o v hv => (hW.cell (p := ⟨b, o, none⟩) (World.block_lt_of_cell? _ _ (hsub b o v hv))).trans (hsub b o v hv)) h0 (by simp)
  rw [hd] at HT
  clear c0 c1 c2 c3 c4 hY
  refine callsIn_of_wp Try.func116 rfl trivial ?_ rfl
  simp only [Try.ntmps116, List.size_toArray, List.length_cons, List.length_nil, Nat.reduceAdd, Nat.reduceSub, Array.replicate_succ, Array.replicate_zero, List.push_toArray, List.append_toArray, List.nil_append, List.cons_append]
  gi_wp2
  refine ⟨trivial, fun h => (by cases h), HT.mono ?_⟩
  clear HT
  rintro r W1 (⟨rfl, ⟨ys, hz, hJz⟩, _⟩ | ⟨rfl, ys, hz, hxz⟩)
  · gi_wp2
    go_end0
    exact ⟨⟨_, rfl⟩, .inl ⟨ys, hz, by simpa using hJz⟩⟩
  · gi_wp2
    go_end0
    exact ⟨⟨_, rfl⟩, .inr ⟨ys, hz, by simpa using hxz⟩⟩
end Go.Proofs.Ytmghhcdhjjhbeaa
/- The library's contract on strings.Clone at this dump. -/
namespace Go.Proofs.Ytmghhcdhjjhbeaa
open Go.Shelf Go.RowKit
def renC25 : Ren := ⟨fun | 25 => 94 | n => n, fun | 0 => 0 | 3 => 3 | 4 => 4 | 5 => 5 | 9 => 9 | 37 => 106 | 47 => 143 | n => n, fun | n => n⟩
theorem laysC25 : LaysPu.n25 Try.prog renC25 := {
  mixed := by kernel_rfl
  f25 := Try.func94.trans (congrArg some (by kernel_rfl))
  t0 := Try.underlying0
  a0 := Try.isAgg0
  z0 := Try.sizeOf0
  v0 := Try.zeroValue0
  i0 := by kernel_rfl
  t3 := Try.underlying3
  a3 := Try.isAgg3
  z3 := Try.sizeOf3
  v3 := Try.zeroValue3
  i3 := by kernel_rfl
  t4 := Try.underlying4
  a4 := Try.isAgg4
  z4 := Try.sizeOf4
  v4 := Try.zeroValue4
  i4 := by kernel_rfl
  t5 := Try.underlying5
  a5 := Try.isAgg5
  z5 := Try.sizeOf5
  v5 := Try.zeroValue5
  i5 := by kernel_rfl
  t9 := Try.underlying9
  a9 := Try.isAgg9
  z9 := Try.sizeOf9
  v9 := Try.zeroValue9
  i9 := by kernel_rfl
  t37 := Try.underlying106
  a37 := Try.isAgg106
  z37 := Try.sizeOf106
  v37 := Try.zeroValue106
  i37 := by kernel_rfl
  t47 := Try.underlying143
  a47 := Try.isAgg143
  z47 := Try.sizeOf143
  v47 := Try.zeroValue143
  i47 := by kernel_rfl }
theorem stringsClone_any (s : ByteArray) (w : World) (hs : s.size ≤ 281474976710656) :
    Calls Try.prog 69 #[.string s] w fun e w' => e = .returned (.string s) ∧ Below w.heap.size w w' := by
  go_enter Try.func69, Try.ntmps69
  go_wp2_with fail
  refine (AnyPu.stringslite_Clone laysC25 s w hs).mono ?_
  rintro e w1 ⟨rfl, hb1⟩
  go_wp2_with fail
  go_ret
  exact ⟨rfl, hb1⟩
end Go.Proofs.Ytmghhcdhjjhbeaa
