/- Two trees that are the same: what the program's loop keeps, as plain mathematics. -/
import Derived.Test.YtapdlnakbpociaaSa
namespace Go.Proofs.Ytapdlnakbpociaa
/-- a tree as it stands in a list: its head, where its list lies, that list -/
structure It where
  k : Int
  t : ByteArray
  m : Int
  e : Int
  a : Option Addr
  F : Fo
  c : Nat
def It.cells (x : It) : List Value := [.int .i64 x.k, .string x.t, .int .i64 x.m, .int .i64 x.e, .slice x.a x.F.len x.c]
def Fo.itAt (F : Fo) (i : Nat) : It := ⟨F.kindAt i, F.textAt i, F.manAt i, F.expAt i, F.addrAt i, F.kidsAt i, F.capAt i⟩
abbrev It2 := It × It
def hsame (p : It2) : Bool := headSame p.1.k p.1.t p.1.m p.1.e p.1.F.len p.2.k p.2.t p.2.m p.2.e p.2.F.len
/-- two trees are the same but for where they lie -/
def same2 (p : It2) : Prop := (p.1.k = p.2.k ∧ p.1.t = p.2.t ∧ p.1.m = p.2.m ∧ p.1.e = p.2.e) ∧ p.1.F.alike p.2.F
theorem bytes_ext {a b : ByteArray} (h : a.toList = b.toList) : a = b := by
  rw [ByteArray.toList_eq, ByteArray.toList_eq] at h
  cases a; cases b; simpa using h
theorem hsame_iff (p : It2) : hsame p = true ↔ (p.1.k = p.2.k ∧ p.1.t = p.2.t ∧ p.1.m = p.2.m ∧ p.1.e = p.2.e) ∧ p.1.F.len = p.2.F.len := by
  unfold hsame headSame
  simp only [Bool.and_eq_true, decide_eq_true_eq]
  constructor
  · rintro ⟨h1, h2, ⟨h3, h4⟩, h5⟩; exact ⟨⟨h1, bytes_ext h2, h3, h4⟩, h5⟩
  · rintro ⟨⟨h1, h2, h3, h4⟩, h5⟩; exact ⟨h1, by rw [h2], ⟨h3, h4⟩, h5⟩
theorem same2_head {p : It2} (h : same2 p) : hsame p = true := (hsame_iff p).2 ⟨h.1, Fo.alike_len h.2⟩
theorem alike_kids : ∀ {G F : Fo}, F.alike G → ∀ i, i < F.len → same2 (F.itAt i, G.itAt i) := by
  intro G
  induction G with
  | nil => intro F h i hi; rw [Fo.alike_nil h] at hi; exact absurd hi (Nat.not_lt_zero _)
  | cons k t m e a c kids next _ ih =>
    intro F h i hi
    obtain ⟨a', c', kids', next', rfl, h1, h2⟩ := Fo.alike_cons h
    cases i with
    | zero => exact ⟨⟨rfl, rfl, rfl, rfl⟩, h1⟩
    | succ i => exact ih h2 i (Nat.lt_of_succ_lt_succ hi)
theorem alike_of_kids : ∀ {F G : Fo}, F.len = G.len → (∀ i, i < F.len → same2 (F.itAt i, G.itAt i)) → F.alike G := by
  intro F
  induction F with
  | nil => intro G h _; cases G with
    | nil => trivial
    | cons => exact absurd h.symm (Nat.succ_ne_zero _)
  | cons k t m e a c kids next _ ih =>
    intro G h hk
    cases G with
    | nil => exact absurd h (Nat.succ_ne_zero _)
    | cons k' t' m' e' a' c' kids' next' =>
      obtain ⟨h1, h2⟩ := hk 0 (Nat.succ_pos _)
      exact ⟨h1, h2, ih (Nat.succ.inj h) fun i hi => hk (i + 1) (Nat.succ_lt_succ hi)⟩
/-- what is closed is the same all through -/
theorem closed_same (X : It2 → Prop) (h : ∀ p, X p → hsame p = true ∧ ∀ i, i < p.1.F.len → X (p.1.F.itAt i, p.2.F.itAt i)) (N : Nat) : ∀ p, p.1.F.size < N → X p → same2 p := by
  induction N with
  | zero => intro p hp; omega
  | succ N ih =>
    intro p hp hX
    obtain ⟨h1, h2⟩ := h p hX
    obtain ⟨h3, h4⟩ := (hsame_iff p).1 h1
    exact ⟨h3, alike_of_kids h4 fun i hi => ih _ (by have := Fo.size_at hi; show (p.1.F.kidsAt i).size < N; omega) (h2 i hi)⟩
/-- where a tree's list lies -/
def It.pl (x : It) : Pl := plOf x.a x.F.len
theorem pl_inj {w : World} {x y : It} (hx : x.F.In w x.a) (hy : y.F.In w y.a) (h : x.pl = y.pl) : x.F = y.F := by
  unfold It.pl plOf at h
  by_cases h1 : x.F.len = 0
  · rw [if_pos h1] at h
    by_cases h2 : y.F.len = 0
    · have e1 : x.F = .nil := by cases hF : x.F with
        | nil => rfl
        | cons => rw [hF] at h1; exact absurd h1 (Nat.succ_ne_zero _)
      have e2 : y.F = .nil := by cases hF : y.F with
        | nil => rfl
        | cons => rw [hF] at h2; exact absurd h2 (Nat.succ_ne_zero _)
      rw [e1, e2]
    · rw [if_neg h2] at h
      exact absurd (congrArg Prod.snd h).symm h2
  · rw [if_neg h1] at h
    by_cases h2 : y.F.len = 0
    · rw [if_pos h2] at h
      exact absurd (congrArg Prod.snd h) h1
    · rw [if_neg h2] at h
      have ha : x.a = y.a := congrArg Prod.fst h
      have hl : x.F.len = y.F.len := congrArg Prod.snd h
      obtain ⟨b, o, e1, f1⟩ := Fo.from_of_len' hx (show 0 < x.F.len by omega)
      obtain ⟨b', o', e2, f2⟩ := Fo.from_of_len' hy (show 0 < y.F.len by omega)
      rw [ha, e2] at e1
      cases e1
      exact Fo.from_inj _ _ _ _ f1 f2 hl
/-- the pairs of two lists -/
def kidPairs (F G : Fo) : Nat → List It2
  | 0 => []
  | n + 1 => kidPairs F G n ++ [(F.itAt n, G.itAt n)]
theorem kidPairs_mem {F G : Fo} {n : Nat} {p : It2} : p ∈ kidPairs F G n ↔ ∃ i, i < n ∧ p = (F.itAt i, G.itAt i) := by
  induction n with
  | zero =>
    constructor
    · intro h; exact absurd h (List.not_mem_nil)
    · rintro ⟨i, h, _⟩; exact absurd h (Nat.not_lt_zero _)
  | succ n ih =>
    show p ∈ kidPairs F G n ++ [(F.itAt n, G.itAt n)] ↔ _
    rw [List.mem_append, ih, List.mem_singleton]
    constructor
    · rintro (⟨i, hi, h⟩ | h)
      · exact ⟨i, by omega, h⟩
      · exact ⟨n, by omega, h⟩
    · rintro ⟨i, hi, h⟩
      rcases Nat.lt_succ_iff_lt_or_eq.1 hi with hi | rfl
      · exact .inl ⟨i, hi, h⟩
      · exact .inr h
def pcells (p : It2) : List Value := p.1.cells ++ p.2.cells
theorem kidPairs_cells (F G : Fo) (n : Nat) : (kidPairs F G n).flatMap pcells = pairCells F G n := by
  induction n with
  | zero => rfl
  | succ n ih => show (kidPairs F G n ++ [(F.itAt n, G.itAt n)]).flatMap pcells = pairCells F G n ++ (F.cellsAt n ++ G.cellsAt n); rw [List.flatMap_append, ih]; simp [pcells, It.cells, Fo.itAt, Fo.cellsAt]
theorem kidPairs_length (F G : Fo) (n : Nat) : (kidPairs F G n).length = n := by
  induction n with
  | zero => rfl
  | succ n ih => show (kidPairs F G n ++ [(F.itAt n, G.itAt n)]).length = n + 1; rw [List.length_append, ih]; rfl
/-- how much is to be done -/
def wsum : List It2 → Nat
  | [] => 0
  | p :: t => p.1.F.size + 1 + wsum t
theorem wsum_append (A B : List It2) : wsum (A ++ B) = wsum A + wsum B := by
  induction A with
  | nil => show wsum B = 0 + wsum B; omega
  | cons p t ih => show p.1.F.size + 1 + wsum (t ++ B) = p.1.F.size + 1 + wsum t + wsum B; omega
theorem wsum_length (A : List It2) : A.length ≤ wsum A := by
  induction A with
  | nil => exact Nat.le_refl _
  | cons p t ih => show t.length + 1 ≤ p.1.F.size + 1 + wsum t; omega
def Fo.upTo (F : Fo) : Nat → Nat
  | 0 => 0
  | n + 1 => F.upTo n + ((F.kidsAt n).size + 1)
theorem wsum_kids (F G : Fo) (n : Nat) : wsum (kidPairs F G n) = F.upTo n := by
  induction n with
  | zero => rfl
  | succ n ih => show wsum (kidPairs F G n ++ [(F.itAt n, G.itAt n)]) = F.upTo n + ((F.kidsAt n).size + 1); rw [wsum_append, ih]; rfl
theorem upTo_next (k : Int) (t : ByteArray) (m e : Int) (a : Option Addr) (c : Nat) (kids next : Fo) (n : Nat) : (Fo.cons k t m e a c kids next).upTo (n + 1) = kids.size + 1 + next.upTo n := by
  induction n with
  | zero => show 0 + (kids.size + 1) = kids.size + 1 + 0; omega
  | succ n ih => show (Fo.cons k t m e a c kids next).upTo (n + 1) + ((next.kidsAt n).size + 1) = kids.size + 1 + (next.upTo n + ((next.kidsAt n).size + 1)); omega
theorem upTo_len (F : Fo) : F.upTo F.len = F.size := by
  induction F with
  | nil => rfl
  | cons k t m e a c kids next _ ih => show (Fo.cons k t m e a c kids next).upTo (next.len + 1) = kids.size + 1 + next.size; rw [upTo_next, ih]
/-- what the loop keeps: S is to be done, L was met, D is done -/
structure Loop (w : World) (top : It2) (T : Nat) (S : List It2) (L : List (Pl2 × Value)) (D : List It2) : Prop where
  fwd : same2 top → ∀ p ∈ S, same2 p
  heads : ∀ p ∈ D, hsame p = true
  closed : ∀ p ∈ D, ∀ i, i < p.1.F.len → (p.1.F.itAt i, p.2.F.itAt i) ∈ D ∨ (p.1.F.itAt i, p.2.F.itAt i) ∈ S
  has : top ∈ D ∨ top ∈ S
  keys : ∀ x v, getL x L = some v → ∃ p ∈ D, x = (p.1.pl, p.2.pl)
  vals : ∀ x v, getL x L = some v → ∃ n : Nat, v = .int .i64 n ∧ 1 ≤ n ∧ n ≤ D.length
  room : D.length + wsum S ≤ T
  lie : ∀ p, p ∈ D ∨ p ∈ S → p.1.F.In w p.1.a ∧ p.2.F.In w p.2.a
theorem Loop.start {w : World} {top : It2} (h : top.1.F.In w top.1.a ∧ top.2.F.In w top.2.a) : Loop w top (top.1.F.size + 1) [top] [] [] where
  fwd := fun h p hp => by rw [List.mem_singleton] at hp; subst hp; exact h
  heads := fun p hp => absurd hp List.not_mem_nil
  closed := fun p hp => absurd hp List.not_mem_nil
  has := .inr (List.mem_singleton.2 rfl)
  keys := fun x v h => by cases h
  vals := fun x v h => by cases h
  room := by show 0 + (top.1.F.size + 1 + 0) ≤ _; omega
  lie := fun p hp => by
    rcases hp with hp | hp
    · exact absurd hp List.not_mem_nil
    · rw [List.mem_singleton] at hp; subst hp; exact h
theorem Loop.done {w : World} {top : It2} {T : Nat} {L : List (Pl2 × Value)} {D : List It2} (h : Loop w top T [] L D) : same2 top := by
  have ht : top ∈ D := by rcases h.has with h | h; exact h; cases h
  refine closed_same (fun p => p ∈ D) (fun p hp => ⟨h.heads p hp, fun i hi => ?_⟩) (top.1.F.size + 1) top (Nat.lt_succ_self _) ht
  rcases h.closed p hp i hi with h | h
  · exact h
  · cases h
theorem Loop.fails {w : World} {top p : It2} {T : Nat} {S D : List It2} {L : List (Pl2 × Value)} (h : Loop w top T (S ++ [p]) L D) (hp : hsame p = false) : ¬ same2 top := fun ht => by
  have := same2_head (h.fwd ht p (by simp))
  rw [hp] at this; cases this
theorem In_kid {w : World} {F : Fo} {a : Option Addr} (h : F.In w a) {i : Nat} (hi : i < F.len) : (F.kidsAt i).In w (F.addrAt i) := by
  obtain ⟨b, o, _, hF⟩ := Fo.from_of_len' h hi
  exact (Fo.from_at hF hi).2.1
theorem mem_move {S D : List It2} {p q : It2} (h : q ∈ D ∨ q ∈ S ++ [p]) : q ∈ p :: D ∨ q ∈ S := by
  rcases h with h | h
  · exact .inl (List.mem_cons_of_mem _ h)
  · rcases List.mem_append.1 h with h | h
    · exact .inr h
    · rw [List.mem_singleton] at h; subst h; exact .inl List.mem_cons_self
/-- a pair whose lists were met -/
theorem Loop.old {w : World} {top p : It2} {T : Nat} {S D : List It2} {L : List (Pl2 × Value)} (h : Loop w top T (S ++ [p]) L D) (hp : hsame p = true) {n : Nat} (hk : getL (p.1.pl, p.2.pl) L = some (.int .i64 n)) :
    Loop w top T S (putL (p.1.pl, p.2.pl) (.int .i64 ((n + 1 : Nat) : Int)) L) (p :: D) where
  fwd := fun ht q hq => h.fwd ht q (List.mem_append_left _ hq)
  heads := fun q hq => by
    rcases List.mem_cons.1 hq with rfl | hq
    · exact hp
    · exact h.heads q hq
  closed := fun q hq i hi => by
    rcases List.mem_cons.1 hq with rfl | hq
    · obtain ⟨r, hr, e⟩ := h.keys _ _ hk
      have hl := h.lie q (.inr (by simp))
      have hlr := h.lie r (.inl hr)
      have e1 : q.1.F = r.1.F := pl_inj hl.1 hlr.1 (congrArg Prod.fst e)
      have e2 : q.2.F = r.2.F := pl_inj hl.2 hlr.2 (congrArg Prod.snd e)
      rw [e1, e2]
      rw [e1] at hi
      exact mem_move (h.closed r hr i hi)
    · exact mem_move (h.closed q hq i hi)
  has := mem_move h.has
  keys := fun x v hx => by
    rw [getL_put] at hx
    by_cases hxk : x = (p.1.pl, p.2.pl)
    · exact ⟨p, List.mem_cons_self, hxk⟩
    · rw [if_neg hxk] at hx
      obtain ⟨q, hq, e⟩ := h.keys x v hx
      exact ⟨q, List.mem_cons_of_mem _ hq, e⟩
  vals := fun x v hx => by
    rw [getL_put] at hx
    by_cases hxk : x = (p.1.pl, p.2.pl)
    · rw [if_pos hxk] at hx
      cases hx
      obtain ⟨n', e1, e2, e3⟩ := h.vals _ _ hk
      have : n = n' := by cases e1; rfl
      subst this
      exact ⟨n + 1, rfl, by omega, by show n + 1 ≤ D.length + 1; omega⟩
    · rw [if_neg hxk] at hx
      obtain ⟨n', e1, e2, e3⟩ := h.vals x v hx
      exact ⟨n', e1, e2, by show n' ≤ D.length + 1; omega⟩
  room := by
    have := h.room
    rw [wsum_append] at this
    have e : wsum [p] = p.1.F.size + 1 + 0 := rfl
    show D.length + 1 + wsum S ≤ T
    omega
  lie := fun q hq => h.lie q (by
    rcases hq with hq | hq
    · rcases List.mem_cons.1 hq with rfl | hq
      · exact .inr (by simp)
      · exact .inl hq
    · exact .inr (List.mem_append_left _ hq))
/-- a pair whose lists were not met -/
theorem Loop.new {w : World} {top p : It2} {T : Nat} {S D : List It2} {L : List (Pl2 × Value)} (h : Loop w top T (S ++ [p]) L D) (hp : hsame p = true) :
    Loop w top T (S ++ kidPairs p.1.F p.2.F p.1.F.len) (putL (p.1.pl, p.2.pl) (.int .i64 1) L) (p :: D) where
  fwd := fun ht q hq => by
    rcases List.mem_append.1 hq with hq | hq
    · exact h.fwd ht q (List.mem_append_left _ hq)
    · obtain ⟨i, hi, rfl⟩ := kidPairs_mem.1 hq
      exact alike_kids (h.fwd ht p (by simp)).2 i hi
  heads := fun q hq => by
    rcases List.mem_cons.1 hq with rfl | hq
    · exact hp
    · exact h.heads q hq
  closed := fun q hq i hi => by
    rcases List.mem_cons.1 hq with rfl | hq
    · exact .inr (List.mem_append_right _ (kidPairs_mem.2 ⟨i, hi, rfl⟩))
    · rcases mem_move (h.closed q hq i hi) with h | h
      · exact .inl h
      · exact .inr (List.mem_append_left _ h)
  has := by
    rcases mem_move h.has with h | h
    · exact .inl h
    · exact .inr (List.mem_append_left _ h)
  keys := fun x v hx => by
    rw [getL_put] at hx
    by_cases hxk : x = (p.1.pl, p.2.pl)
    · exact ⟨p, List.mem_cons_self, hxk⟩
    · rw [if_neg hxk] at hx
      obtain ⟨q, hq, e⟩ := h.keys x v hx
      exact ⟨q, List.mem_cons_of_mem _ hq, e⟩
  vals := fun x v hx => by
    rw [getL_put] at hx
    by_cases hxk : x = (p.1.pl, p.2.pl)
    · rw [if_pos hxk] at hx
      cases hx
      exact ⟨1, rfl, by omega, by show 1 ≤ D.length + 1; omega⟩
    · rw [if_neg hxk] at hx
      obtain ⟨n', e1, e2, e3⟩ := h.vals x v hx
      exact ⟨n', e1, e2, by show n' ≤ D.length + 1; omega⟩
  room := by
    have := h.room
    rw [wsum_append] at this ⊢
    rw [wsum_kids, upTo_len]
    have e : wsum [p] = p.1.F.size + 1 + 0 := rfl
    show D.length + 1 + (wsum S + p.1.F.size) ≤ T
    omega
  lie := fun q hq => by
    rcases hq with hq | hq
    · rcases List.mem_cons.1 hq with rfl | hq
      · exact h.lie q (.inr (by simp))
      · exact h.lie q (.inl hq)
    · rcases List.mem_append.1 hq with hq | hq
      · exact h.lie q (.inr (List.mem_append_left _ hq))
      · obtain ⟨i, hi, rfl⟩ := kidPairs_mem.1 hq
        have hl := h.lie p (.inr (by simp))
        have hlen := ((hsame_iff p).1 hp).2
        exact ⟨In_kid hl.1 hi, In_kid hl.2 (by omega)⟩
end Go.Proofs.Ytapdlnakbpociaa
