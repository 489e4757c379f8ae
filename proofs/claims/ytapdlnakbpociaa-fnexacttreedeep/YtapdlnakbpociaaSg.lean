/- Two trees that are the same, by the program: keys that can be held against each other, and a measure that is read off a relation. -/
import Derived.Test.YtapdlnakbpociaaSd
import Derived.Test.YtapdlnakbpociaaFoG
namespace Go.Proofs.Ytapdlnakbpociaa
open Go.RowKit
theorem getL_mem {K : Type} [DecidableEq K] {L : List (K × Value)} {q : K × Value} (h : q ∈ L) : ∃ v, getL q.1 L = some v := by
  induction L with
  | nil => cases h
  | cons p t ih =>
    obtain ⟨k, u⟩ := p
    unfold getL
    by_cases e : q.1 = k
    · exact ⟨u, by rw [if_pos e]⟩
    · rw [if_neg e]
      rcases List.mem_cons.1 h with h | h
      · subst h; exact absurd rfl e
      · exact ih h
/-- all lists below lie in cells that are not frozen -/
def Fo.Cl (w : World) : Fo → Prop
  | .nil => True
  | .cons _ _ _ _ a _ kids next => PlOk w (plOf a kids.len) ∧ kids.Cl w ∧ next.Cl w
def It.Good (w : World) (x : It) : Prop := PlOk w x.pl ∧ x.F.Cl w
theorem Fo.Cl.at {w : World} : ∀ {F : Fo}, F.Cl w → ∀ {i : Nat}, i < F.len → (F.itAt i).Good w := by
  intro F
  induction F with
  | nil => intro _ i hi; exact absurd hi (Nat.not_lt_zero _)
  | cons k t m e a c kids next _ ih =>
    rintro ⟨h1, h2, h3⟩ i hi
    cases i with
    | zero => exact ⟨h1, h2⟩
    | succ i => exact ih h3 (Nat.lt_of_succ_lt_succ hi)
theorem PlOk.below {w w' : World} {p : Pl} (h : PlOk w p) (hb : Below w.heap.size w w') : PlOk w' p := by
  rcases h with h | ⟨a, cs, t, h1, h2⟩
  · exact .inl h
  · exact .inr ⟨a, cs, t, h1, (hb.block _ (Array.getElem?_eq_some_iff.1 h2).1).trans h2⟩
theorem plOk_of {w : World} {n : Nat} (hc : Clean n w) {b o : Nat} {F : Fo} (hn : n ≤ b) (hF : F.From w b o) : PlOk w (plOf (some ⟨b, o, none⟩) F.len) := by
  cases F with
  | nil => exact .inl rfl
  | cons k t m e a c kids next =>
    have hlt : b < w.heap.size := World.block_lt_of_cell? w _ hF.1.1
    obtain ⟨cs, t', h⟩ := hc b _ hn (Array.getElem?_eq_getElem hlt)
    exact .inr ⟨⟨b, o, none⟩, cs, t', by unfold plOf; rw [if_neg (show ¬ (Fo.cons k t m e a c kids next).len = 0 from Nat.succ_ne_zero _)], by rw [Array.getElem?_eq_getElem hlt, h]⟩
theorem Fo.cl_of {w : World} {n : Nat} (hc : Clean n w) : ∀ (F : Fo) (b o : Nat), F.From w b o → F.Blk (fun b => n ≤ b) → F.Cl w := by
  intro F
  induction F with
  | nil => intro b o _ _; trivial
  | cons k t m e a c kids next ih1 ih2 =>
    rintro b o ⟨_, hk, _, _, _, hn⟩ ⟨h1, h2, h3⟩
    rcases hk with rfl | ⟨b', o', rfl, e2⟩
    · exact ⟨.inl rfl, trivial, ih2 _ _ hn h3⟩
    · rcases h1 with rfl | ⟨b2, o2, e, hP⟩
      · exact ⟨.inl rfl, trivial, ih2 _ _ hn h3⟩
      · cases e
        exact ⟨plOk_of hc hP e2, ih1 _ _ e2 h2, ih2 _ _ hn h3⟩
theorem good_old {w : World} {S D : List It2} {p : It2} (hg : ∀ q, q ∈ D ∨ q ∈ S ++ [p] → q.1.Good w ∧ q.2.Good w) : ∀ q, q ∈ p :: D ∨ q ∈ S → q.1.Good w ∧ q.2.Good w := by
  intro q hq
  rcases hq with hq | hq
  · rcases List.mem_cons.1 hq with rfl | hq
    · exact hg q (.inr (by simp))
    · exact hg q (.inl hq)
  · exact hg q (.inr (List.mem_append_left _ hq))
theorem good_new {w : World} {S D : List It2} {p : It2} (hp : hsame p = true) (hg : ∀ q, q ∈ D ∨ q ∈ S ++ [p] → q.1.Good w ∧ q.2.Good w) : ∀ q, q ∈ p :: D ∨ q ∈ S ++ kidPairs p.1.F p.2.F p.1.F.len → q.1.Good w ∧ q.2.Good w := by
  intro q hq
  rcases hq with hq | hq
  · exact good_old hg q (.inl hq)
  · rcases List.mem_append.1 hq with hq | hq
    · exact good_old hg q (.inr hq)
    · obtain ⟨i, hi, rfl⟩ := kidPairs_mem.1 hq
      obtain ⟨g1, g2⟩ := hg p (.inr (by simp))
      have hl := ((hsame_iff p).1 hp).2
      exact ⟨g1.2.at hi, g2.2.at (by omega)⟩
theorem Loop.count {w : World} {top : It2} {T : Nat} {S D : List It2} {L : List (Pl2 × Value)} (h : Loop w top T S L D) (x : Pl2) : ∃ n0 : Nat, (getL x L).getD (.int .i64 0) = .int .i64 n0 ∧ n0 ≤ T ∧ (n0 = 0 ∨ (1 ≤ n0 ∧ getL x L = some (.int .i64 n0))) := by
  cases hx : getL x L with
  | none => exact ⟨0, rfl, Nat.zero_le _, .inl rfl⟩
  | some v =>
    obtain ⟨n, rfl, h1, h2⟩ := h.vals x v hx
    have := h.room
    exact ⟨n, rfl, by omega, .inr ⟨h1, rfl⟩⟩
theorem putL_putL {K : Type} [DecidableEq K] (x : K) (u v : Value) : ∀ (L : List (K × Value)), putL x v (putL x u L) = putL x v L := by
  intro L
  induction L with
  | nil => show (if x = x then _ else _) = _; rw [if_pos rfl]; rfl
  | cons p t ih =>
    obtain ⟨k, z⟩ := p
    by_cases hk : x = k
    · subst hk
      show putL x v (if x = x then (x, u) :: t else (x, z) :: putL x u t) = (if x = x then (x, v) :: t else (x, z) :: putL x v t)
      rw [if_pos rfl, if_pos rfl]
      show (if x = x then (x, v) :: t else (x, u) :: putL x v t) = _
      rw [if_pos rfl]
    · show putL x v (if x = k then (x, u) :: t else (k, z) :: putL x u t) = (if x = k then (x, v) :: t else (k, z) :: putL x v t)
      rw [if_neg hk, if_neg hk]
      show (if x = k then (x, v) :: putL x u t else (k, z) :: putL x v (putL x u t)) = _
      rw [if_neg hk, ih]
theorem grown_cell {w w' : World} {r : Option Nat} (h : w.grownBy w' r) {b : Nat} (o : Nat) (hb : b < w.heap.size) (hn : some b ≠ r) : w'.cell? ⟨b, o, none⟩ = w.cell? ⟨b, o, none⟩ := World.cell?_of_block (a := ⟨b, o, none⟩) (h.block b hb hn)
theorem exists_least {P : Nat → Prop} (h : ∃ n, P n) : ∃ n, P n ∧ ∀ m, P m → n ≤ m := by
  obtain ⟨n, hn⟩ := h
  induction n using Nat.strongRecOn with
  | ind n ih =>
    by_cases hm : ∃ m, m < n ∧ P m
    · obtain ⟨m, h1, h2⟩ := hm; exact ih m h1 h2
    · exact ⟨n, hn, fun m hP => Nat.le_of_not_lt fun h => hm ⟨m, h, hP⟩⟩
open Classical in
/-- the least number of which something holds -/
noncomputable def least (P : Nat → Prop) : Nat := if h : ∃ n, P n then Classical.choose (exists_least h) else 0
theorem least_spec {P : Nat → Prop} (h : ∃ n, P n) : P (least P) := by
  unfold least
  rw [dif_pos h]
  exact (Classical.choose_spec (exists_least h)).1
theorem least_le {P : Nat → Prop} {n : Nat} (h : P n) : least P ≤ n := by
  unfold least
  rw [dif_pos ⟨n, h⟩]
  exact (Classical.choose_spec (exists_least ⟨n, h⟩)).2 n h
end Go.Proofs.Ytapdlnakbpociaa
