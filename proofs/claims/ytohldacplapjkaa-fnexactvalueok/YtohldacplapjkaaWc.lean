/- Two values that are the same: what the program's loop keeps, as plain mathematics. -/
import Derived.Test.YtohldacplapjkaaWb
import Derived.Test.YtohldacplapjkaaSc
namespace Go.Proofs.Ytohldacplapjkaa
/-- a value as it stands in a list: its head, where its list lies, that list -/
structure ItV where
  h : Hd
  a : Option Addr
  F : Vo
  c : Nat
def ItV.cells (x : ItV) : List Value := x.h.cells x.a x.F.len x.c
def Vo.itAt (F : Vo) (i : Nat) : ItV := ⟨F.hdAt i, F.addrAt i, F.kidsAt i, F.capAt i⟩
abbrev It2V := ItV × ItV
def hsameV (p : It2V) : Bool := headSameV p.1.h p.1.F.len p.2.h p.2.F.len
/-- two values are the same but for where they lie -/
def same2V (p : It2V) : Prop := p.1.h.same p.2.h ∧ p.1.F.alike p.2.F
theorem hsame_iffV (p : It2V) : hsameV p = true ↔ p.1.h.same p.2.h ∧ p.1.F.len = p.2.F.len := by
  unfold hsameV headSameV
  exact decide_eq_true_iff
theorem same2_headV {p : It2V} (h : same2V p) : hsameV p = true := (hsame_iffV p).2 ⟨h.1, Vo.alike_len h.2⟩
theorem alike_kidsV : ∀ {G F : Vo}, F.alike G → ∀ i, i < F.len → same2V (F.itAt i, G.itAt i) := by
  intro G
  induction G with
  | nil => intro F h i hi; rw [Vo.alike_nil h] at hi; exact absurd hi (Nat.not_lt_zero _)
  | cons g a c kids next _ ih =>
    intro F h i hi
    obtain ⟨g', a', c', kids', next', rfl, h0, h1, h2⟩ := Vo.alike_cons h
    cases i with
    | zero => exact ⟨h0, h1⟩
    | succ i => exact ih h2 i (Nat.lt_of_succ_lt_succ hi)
theorem alike_of_kidsV : ∀ {F G : Vo}, F.len = G.len → (∀ i, i < F.len → same2V (F.itAt i, G.itAt i)) → F.alike G := by
  intro F
  induction F with
  | nil => intro G h _; cases G with
    | nil => trivial
    | cons => exact absurd h.symm (Nat.succ_ne_zero _)
  | cons g a c kids next _ ih =>
    intro G h hk
    cases G with
    | nil => exact absurd h (Nat.succ_ne_zero _)
    | cons g' a' c' kids' next' =>
      obtain ⟨h1, h2⟩ := hk 0 (Nat.succ_pos _)
      exact ⟨h1, h2, ih (Nat.succ.inj h) fun i hi => hk (i + 1) (Nat.succ_lt_succ hi)⟩
/-- what is closed is the same all through -/
theorem closed_sameV (X : It2V → Prop) (h : ∀ p, X p → hsameV p = true ∧ ∀ i, i < p.1.F.len → X (p.1.F.itAt i, p.2.F.itAt i)) (N : Nat) : ∀ p, p.1.F.size < N → X p → same2V p := by
  induction N with
  | zero => intro p hp; omega
  | succ N ih =>
    intro p hp hX
    obtain ⟨h1, h2⟩ := h p hX
    obtain ⟨h3, h4⟩ := (hsame_iffV p).1 h1
    exact ⟨h3, alike_of_kidsV h4 fun i hi => ih _ (by have := Vo.size_at hi; show (p.1.F.kidsAt i).size < N; omega) (h2 i hi)⟩
/-- where a tree's list lies -/
def ItV.pl (x : ItV) : Pl := plOf x.a x.F.len
theorem pl_injV {w : World} {x y : ItV} (hx : x.F.In w x.a) (hy : y.F.In w y.a) (h : x.pl = y.pl) : x.F = y.F := by
  unfold ItV.pl plOf at h
  by_cases h1 : x.F.len = 0
  · rw [if_pos h1] at h
    by_cases h2 : y.F.len = 0
    · have e1 : x.F = .nil := by cases hF : x.F with
        | nil => rfl
        | cons => rw [hF] at h1; exact absurd h1 (Nat.succ_ne_zero _)
      have e2 : y.F = .nil := by cases hF : y.F with
        | nil => rfl
        | cons => rw [hF] at h2; exact absurd h2 (Nat.succ_ne_zero _)
      rw [e1, e2]
    · rw [if_neg h2] at h
      exact absurd (congrArg Prod.snd h).symm h2
  · rw [if_neg h1] at h
    by_cases h2 : y.F.len = 0
    · rw [if_pos h2] at h
      exact absurd (congrArg Prod.snd h) h1
    · rw [if_neg h2] at h
      have ha : x.a = y.a := congrArg Prod.fst h
      have hl : x.F.len = y.F.len := congrArg Prod.snd h
      obtain ⟨b, o, e1, f1⟩ := Vo.from_of_len hx (show 0 < x.F.len by omega)
      obtain ⟨b', o', e2, f2⟩ := Vo.from_of_len hy (show 0 < y.F.len by omega)
      rw [ha, e2] at e1
      cases e1
      exact Vo.from_inj _ _ _ _ f1 f2 hl
/-- the pairs of two lists -/
def kidPairsV (F G : Vo) : Nat → List It2V
  | 0 => []
  | n + 1 => kidPairsV F G n ++ [(F.itAt n, G.itAt n)]
theorem kidPairs_memV {F G : Vo} {n : Nat} {p : It2V} : p ∈ kidPairsV F G n ↔ ∃ i, i < n ∧ p = (F.itAt i, G.itAt i) := by
  induction n with
  | zero =>
    constructor
    · intro h; exact absurd h (List.not_mem_nil)
    · rintro ⟨i, h, _⟩; exact absurd h (Nat.not_lt_zero _)
  | succ n ih =>
    show p ∈ kidPairsV F G n ++ [(F.itAt n, G.itAt n)] ↔ _
    rw [List.mem_append, ih, List.mem_singleton]
    constructor
    · rintro (⟨i, hi, h⟩ | h)
      · exact ⟨i, by omega, h⟩
      · exact ⟨n, by omega, h⟩
    · rintro ⟨i, hi, h⟩
      rcases Nat.lt_succ_iff_lt_or_eq.1 hi with hi | rfl
      · exact .inl ⟨i, hi, h⟩
      · exact .inr h
def pcellsV (p : It2V) : List Value := p.1.cells ++ p.2.cells
theorem kidPairs_cellsV (F G : Vo) (n : Nat) : (kidPairsV F G n).flatMap pcellsV = pairCellsV F G n := by
  induction n with
  | zero => rfl
  | succ n ih => show (kidPairsV F G n ++ [(F.itAt n, G.itAt n)]).flatMap pcellsV = pairCellsV F G n ++ (F.cellsAt n ++ G.cellsAt n); rw [List.flatMap_append, ih]; simp [pcellsV, ItV.cells, Vo.itAt, Vo.cellsAt]
theorem kidPairs_lengthV (F G : Vo) (n : Nat) : (kidPairsV F G n).length = n := by
  induction n with
  | zero => rfl
  | succ n ih => show (kidPairsV F G n ++ [(F.itAt n, G.itAt n)]).length = n + 1; rw [List.length_append, ih]; rfl
/-- how much is to be done -/
def wsumV : List It2V → Nat
  | [] => 0
  | p :: t => p.1.F.size + 1 + wsumV t
theorem wsum_appendV (A B : List It2V) : wsumV (A ++ B) = wsumV A + wsumV B := by
  induction A with
  | nil => show wsumV B = 0 + wsumV B; omega
  | cons p t ih => show p.1.F.size + 1 + wsumV (t ++ B) = p.1.F.size + 1 + wsumV t + wsumV B; omega
theorem wsum_lengthV (A : List It2V) : A.length ≤ wsumV A := by
  induction A with
  | nil => exact Nat.le_refl _
  | cons p t ih => show t.length + 1 ≤ p.1.F.size + 1 + wsumV t; omega
def Vo.upTo (F : Vo) : Nat → Nat
  | 0 => 0
  | n + 1 => F.upTo n + ((F.kidsAt n).size + 1)
theorem wsum_kidsV (F G : Vo) (n : Nat) : wsumV (kidPairsV F G n) = F.upTo n := by
  induction n with
  | zero => rfl
  | succ n ih => show wsumV (kidPairsV F G n ++ [(F.itAt n, G.itAt n)]) = F.upTo n + ((F.kidsAt n).size + 1); rw [wsum_appendV, ih]; rfl
theorem upTo_nextV (h : Hd) (a : Option Addr) (c : Nat) (kids next : Vo) (n : Nat) : (Vo.cons h a c kids next).upTo (n + 1) = kids.size + 1 + next.upTo n := by
  induction n with
  | zero => show 0 + (kids.size + 1) = kids.size + 1 + 0; omega
  | succ n ih => show (Vo.cons h a c kids next).upTo (n + 1) + ((next.kidsAt n).size + 1) = kids.size + 1 + (next.upTo n + ((next.kidsAt n).size + 1)); omega
theorem upTo_lenV (F : Vo) : F.upTo F.len = F.size := by
  induction F with
  | nil => rfl
  | cons h a c kids next _ ih => show (Vo.cons h a c kids next).upTo (next.len + 1) = kids.size + 1 + next.size; rw [upTo_nextV, ih]
/-- what the loop keeps: S is to be done, L was met, D is done -/
structure LoopV (w : World) (top : It2V) (T : Nat) (S : List It2V) (L : List (Pl2 × Value)) (D : List It2V) : Prop where
  fwd : same2V top → ∀ p ∈ S, same2V p
  heads : ∀ p ∈ D, hsameV p = true
  closed : ∀ p ∈ D, ∀ i, i < p.1.F.len → (p.1.F.itAt i, p.2.F.itAt i) ∈ D ∨ (p.1.F.itAt i, p.2.F.itAt i) ∈ S
  has : top ∈ D ∨ top ∈ S
  keys : ∀ x v, getL x L = some v → ∃ p ∈ D, x = (p.1.pl, p.2.pl)
  vals : ∀ x v, getL x L = some v → ∃ n : Nat, v = .int .i64 n ∧ 1 ≤ n ∧ n ≤ D.length
  room : D.length + wsumV S ≤ T
  lie : ∀ p, p ∈ D ∨ p ∈ S → p.1.F.In w p.1.a ∧ p.2.F.In w p.2.a
  hdin : ∀ p, p ∈ D ∨ p ∈ S → p.1.h.In w ∧ p.2.h.In w
theorem LoopV.start {w : World} {top : It2V} (h : top.1.F.In w top.1.a ∧ top.2.F.In w top.2.a) (hh : top.1.h.In w ∧ top.2.h.In w) : LoopV w top (top.1.F.size + 1) [top] [] [] where
  fwd := fun h p hp => by rw [List.mem_singleton] at hp; subst hp; exact h
  heads := fun p hp => absurd hp List.not_mem_nil
  closed := fun p hp => absurd hp List.not_mem_nil
  has := .inr (List.mem_singleton.2 rfl)
  keys := fun x v h => by cases h
  vals := fun x v h => by cases h
  room := by show 0 + (top.1.F.size + 1 + 0) ≤ _; omega
  lie := fun p hp => by
    rcases hp with hp | hp
    · exact absurd hp List.not_mem_nil
    · rw [List.mem_singleton] at hp; subst hp; exact h
  hdin := fun p hp => by
    rcases hp with hp | hp
    · exact absurd hp List.not_mem_nil
    · rw [List.mem_singleton] at hp; subst hp; exact hh
theorem LoopV.done {w : World} {top : It2V} {T : Nat} {L : List (Pl2 × Value)} {D : List It2V} (h : LoopV w top T [] L D) : same2V top := by
  have ht : top ∈ D := by rcases h.has with h | h; exact h; cases h
  refine closed_sameV (fun p => p ∈ D) (fun p hp => ⟨h.heads p hp, fun i hi => ?_⟩) (top.1.F.size + 1) top (Nat.lt_succ_self _) ht
  rcases h.closed p hp i hi with h | h
  · exact h
  · cases h
theorem LoopV.fails {w : World} {top p : It2V} {T : Nat} {S D : List It2V} {L : List (Pl2 × Value)} (h : LoopV w top T (S ++ [p]) L D) (hp : hsameV p = false) : ¬ same2V top := fun ht => by
  have := same2_headV (h.fwd ht p (by simp))
  rw [hp] at this; cases this
theorem In_kidV {w : World} {F : Vo} {a : Option Addr} (h : F.In w a) {i : Nat} (hi : i < F.len) : (F.kidsAt i).In w (F.addrAt i) := by
  obtain ⟨b, o, _, hF⟩ := Vo.from_of_len h hi
  exact (Vo.from_at hF hi).2.1
theorem hd_kidV {w : World} {F : Vo} {a : Option Addr} (h : F.In w a) {i : Nat} (hi : i < F.len) : (F.hdAt i).In w := by
  obtain ⟨b, o, _, hF⟩ := Vo.from_of_len h hi
  exact (Vo.from_at hF hi).2.2.2
theorem mem_moveV {S D : List It2V} {p q : It2V} (h : q ∈ D ∨ q ∈ S ++ [p]) : q ∈ p :: D ∨ q ∈ S := by
  rcases h with h | h
  · exact .inl (List.mem_cons_of_mem _ h)
  · rcases List.mem_append.1 h with h | h
    · exact .inr h
    · rw [List.mem_singleton] at h; subst h; exact .inl List.mem_cons_self
/-- a pair whose lists were met -/
theorem LoopV.old {w : World} {top p : It2V} {T : Nat} {S D : List It2V} {L : List (Pl2 × Value)} (h : LoopV w top T (S ++ [p]) L D) (hp : hsameV p = true) {n : Nat} (hk : getL (p.1.pl, p.2.pl) L = some (.int .i64 n)) :
    LoopV w top T S (putL (p.1.pl, p.2.pl) (.int .i64 ((n + 1 : Nat) : Int)) L) (p :: D) where
  fwd := fun ht q hq => h.fwd ht q (List.mem_append_left _ hq)
  heads := fun q hq => by
    rcases List.mem_cons.1 hq with rfl | hq
    · exact hp
    · exact h.heads q hq
  closed := fun q hq i hi => by
    rcases List.mem_cons.1 hq with rfl | hq
    · obtain ⟨r, hr, e⟩ := h.keys _ _ hk
      have hl := h.lie q (.inr (by simp))
      have hlr := h.lie r (.inl hr)
      have e1 : q.1.F = r.1.F := pl_injV hl.1 hlr.1 (congrArg Prod.fst e)
      have e2 : q.2.F = r.2.F := pl_injV hl.2 hlr.2 (congrArg Prod.snd e)
      rw [e1, e2]
      rw [e1] at hi
      exact mem_moveV (h.closed r hr i hi)
    · exact mem_moveV (h.closed q hq i hi)
  has := mem_moveV h.has
  keys := fun x v hx => by
    rw [getL_put] at hx
    by_cases hxk : x = (p.1.pl, p.2.pl)
    · exact ⟨p, List.mem_cons_self, hxk⟩
    · rw [if_neg hxk] at hx
      obtain ⟨q, hq, e⟩ := h.keys x v hx
      exact ⟨q, List.mem_cons_of_mem _ hq, e⟩
  vals := fun x v hx => by
    rw [getL_put] at hx
    by_cases hxk : x = (p.1.pl, p.2.pl)
    · rw [if_pos hxk] at hx
      cases hx
      obtain ⟨n', e1, e2, e3⟩ := h.vals _ _ hk
      have : n = n' := by cases e1; rfl
      subst this
      exact ⟨n + 1, rfl, by omega, by show n + 1 ≤ D.length + 1; omega⟩
    · rw [if_neg hxk] at hx
      obtain ⟨n', e1, e2, e3⟩ := h.vals x v hx
      exact ⟨n', e1, e2, by show n' ≤ D.length + 1; omega⟩
  room := by
    have := h.room
    rw [wsum_appendV] at this
    have e : wsumV [p] = p.1.F.size + 1 + 0 := rfl
    show D.length + 1 + wsumV S ≤ T
    omega
  lie := fun q hq => h.lie q (by
    rcases hq with hq | hq
    · rcases List.mem_cons.1 hq with rfl | hq
      · exact .inr (by simp)
      · exact .inl hq
    · exact .inr (List.mem_append_left _ hq))
  hdin := fun q hq => h.hdin q (by
    rcases hq with hq | hq
    · rcases List.mem_cons.1 hq with rfl | hq
      · exact .inr (by simp)
      · exact .inl hq
    · exact .inr (List.mem_append_left _ hq))
/-- a pair whose lists were not met -/
theorem LoopV.new {w : World} {top p : It2V} {T : Nat} {S D : List It2V} {L : List (Pl2 × Value)} (h : LoopV w top T (S ++ [p]) L D) (hp : hsameV p = true) :
    LoopV w top T (S ++ kidPairsV p.1.F p.2.F p.1.F.len) (putL (p.1.pl, p.2.pl) (.int .i64 1) L) (p :: D) where
  fwd := fun ht q hq => by
    rcases List.mem_append.1 hq with hq | hq
    · exact h.fwd ht q (List.mem_append_left _ hq)
    · obtain ⟨i, hi, rfl⟩ := kidPairs_memV.1 hq
      exact alike_kidsV (h.fwd ht p (by simp)).2 i hi
  heads := fun q hq => by
    rcases List.mem_cons.1 hq with rfl | hq
    · exact hp
    · exact h.heads q hq
  closed := fun q hq i hi => by
    rcases List.mem_cons.1 hq with rfl | hq
    · exact .inr (List.mem_append_right _ (kidPairs_memV.2 ⟨i, hi, rfl⟩))
    · rcases mem_moveV (h.closed q hq i hi) with h | h
      · exact .inl h
      · exact .inr (List.mem_append_left _ h)
  has := by
    rcases mem_moveV h.has with h | h
    · exact .inl h
    · exact .inr (List.mem_append_left _ h)
  keys := fun x v hx => by
    rw [getL_put] at hx
    by_cases hxk : x = (p.1.pl, p.2.pl)
    · exact ⟨p, List.mem_cons_self, hxk⟩
    · rw [if_neg hxk] at hx
      obtain ⟨q, hq, e⟩ := h.keys x v hx
      exact ⟨q, List.mem_cons_of_mem _ hq, e⟩
  vals := fun x v hx => by
    rw [getL_put] at hx
    by_cases hxk : x = (p.1.pl, p.2.pl)
    · rw [if_pos hxk] at hx
      cases hx
      exact ⟨1, rfl, by omega, by show 1 ≤ D.length + 1; omega⟩
    · rw [if_neg hxk] at hx
      obtain ⟨n', e1, e2, e3⟩ := h.vals x v hx
      exact ⟨n', e1, e2, by show n' ≤ D.length + 1; omega⟩
  room := by
    have := h.room
    rw [wsum_appendV] at this ⊢
    rw [wsum_kidsV, upTo_lenV]
    have e : wsumV [p] = p.1.F.size + 1 + 0 := rfl
    show D.length + 1 + (wsumV S + p.1.F.size) ≤ T
    omega
  lie := fun q hq => by
    rcases hq with hq | hq
    · rcases List.mem_cons.1 hq with rfl | hq
      · exact h.lie q (.inr (by simp))
      · exact h.lie q (.inl hq)
    · rcases List.mem_append.1 hq with hq | hq
      · exact h.lie q (.inr (List.mem_append_left _ hq))
      · obtain ⟨i, hi, rfl⟩ := kidPairs_memV.1 hq
        have hl := h.lie p (.inr (by simp))
        have hlen := ((hsame_iffV p).1 hp).2
        exact ⟨In_kidV hl.1 hi, In_kidV hl.2 (by omega)⟩
  hdin := fun q hq => by
    rcases hq with hq | hq
    · rcases List.mem_cons.1 hq with rfl | hq
      · exact h.hdin q (.inr (by simp))
      · exact h.hdin q (.inl hq)
    · rcases List.mem_append.1 hq with hq | hq
      · exact h.hdin q (.inr (List.mem_append_left _ hq))
      · obtain ⟨i, hi, rfl⟩ := kidPairs_memV.1 hq
        have hl := h.lie p (.inr (by simp))
        have hlen := ((hsame_iffV p).1 hp).2
        exact ⟨hd_kidV hl.1 hi, hd_kidV hl.2 (by omega)⟩
end Go.Proofs.Ytohldacplapjkaa
