/- My own texts, joined: Sc Se Ud Ue. -/
import Derived.Test.YtfgchdnpbbgmjaaJFnTomlNot4
import Derived.Deep.RegionHeld3
import Derived.Carry
/- Two trees that are the same: what the program's loop keeps, as plain mathematics. -/
namespace Go.Proofs.Ytfgchdnpbbgmjaa
/-- a tree as it stands in a list: its head, where its list lies, that list -/
structure It where
  k : Int
  t : ByteArray
  m : Int
  e : Int
  a : Option Addr
  F : Fo
  c : Nat
def It.cells (x : It) : List Value := [.int .i64 x.k, .string x.t, .int .i64 x.m, .int .i64 x.e, .slice x.a x.F.len x.c]
def Fo.itAt (F : Fo) (i : Nat) : It := ⟨F.kindAt i, F.textAt i, F.manAt i, F.expAt i, F.addrAt i, F.kidsAt i, F.capAt i⟩
abbrev It2 := It × It
def hsame (p : It2) : Bool := headSame p.1.k p.1.t p.1.m p.1.e p.1.F.len p.2.k p.2.t p.2.m p.2.e p.2.F.len
/-- two trees are the same but for where they lie -/
def same2 (p : It2) : Prop := (p.1.k = p.2.k ∧ p.1.t = p.2.t ∧ p.1.m = p.2.m ∧ p.1.e = p.2.e) ∧ p.1.F.alike p.2.F
theorem bytes_ext {a b : ByteArray} (h : a.toList = b.toList) : a = b := by
  rw [ByteArray.toList_eq, ByteArray.toList_eq] at h
  cases a; cases b; simpa using h
theorem hsame_iff (p : It2) : hsame p = true ↔ (p.1.k = p.2.k ∧ p.1.t = p.2.t ∧ p.1.m = p.2.m ∧ p.1.e = p.2.e) ∧ p.1.F.len = p.2.F.len := by
  unfold hsame headSame
  simp only [Bool.and_eq_true, decide_eq_true_eq]
  constructor
  · rintro ⟨h1, h2, ⟨h3, h4⟩, h5⟩; exact ⟨⟨h1, bytes_ext h2, h3, h4⟩, h5⟩
  · rintro ⟨⟨h1, h2, h3, h4⟩, h5⟩; exact ⟨h1, by rw [h2], ⟨h3, h4⟩, h5⟩
theorem alike_kids : ∀ {G F : Fo}, F.alike G → ∀ i, i < F.len → same2 (F.itAt i, G.itAt i) := by
  intro G
  induction G with
  | nil => intro F h i hi; rw [Fo.alike_nil h] at hi; exact absurd hi (Nat.not_lt_zero _)
  | cons k t m e a c kids next _ ih =>
    intro F h i hi
    obtain ⟨a', c', kids', next', rfl, h1, h2⟩ := Fo.alike_cons h
    cases i with
    | zero => exact ⟨⟨rfl, rfl, rfl, rfl⟩, h1⟩
    | succ i => exact ih h2 i (Nat.lt_of_succ_lt_succ hi)
theorem alike_of_kids : ∀ {F G : Fo}, F.len = G.len → (∀ i, i < F.len → same2 (F.itAt i, G.itAt i)) → F.alike G := by
  intro F
  induction F with
  | nil => intro G h _; cases G with
    | nil => trivial
    | cons => exact absurd h.symm (Nat.succ_ne_zero _)
  | cons k t m e a c kids next _ ih =>
    intro G h hk
    cases G with
    | nil => exact absurd h (Nat.succ_ne_zero _)
    | cons k' t' m' e' a' c' kids' next' =>
      obtain ⟨h1, h2⟩ := hk 0 (Nat.succ_pos _)
      exact ⟨h1, h2, ih (Nat.succ.inj h) fun i hi => hk (i + 1) (Nat.succ_lt_succ hi)⟩
/-- what is closed is the same all through -/
theorem closed_same (X : It2 → Prop) (h : ∀ p, X p → hsame p = true ∧ ∀ i, i < p.1.F.len → X (p.1.F.itAt i, p.2.F.itAt i)) (N : Nat) : ∀ p, p.1.F.size < N → X p → same2 p := by
  induction N with
  | zero => intro p hp; omega
  | succ N ih =>
    intro p hp hX
    obtain ⟨h1, h2⟩ := h p hX
    obtain ⟨h3, h4⟩ := (hsame_iff p).1 h1
    exact ⟨h3, alike_of_kids h4 fun i hi => ih _ (by have := Fo.size_at hi; show (p.1.F.kidsAt i).size < N; omega) (h2 i hi)⟩
/-- where a tree's list lies -/
def It.pl (x : It) : Pl := plOf x.a x.F.len
/-- the pairs of two lists -/
def kidPairs (F G : Fo) : Nat → List It2
  | 0 => []
  | n + 1 => kidPairs F G n ++ [(F.itAt n, G.itAt n)]
theorem kidPairs_mem {F G : Fo} {n : Nat} {p : It2} : p ∈ kidPairs F G n ↔ ∃ i, i < n ∧ p = (F.itAt i, G.itAt i) := by
  induction n with
  | zero =>
    constructor
    · intro h; exact absurd h (List.not_mem_nil)
    · rintro ⟨i, h, _⟩; exact absurd h (Nat.not_lt_zero _)
  | succ n ih =>
    show p ∈ kidPairs F G n ++ [(F.itAt n, G.itAt n)] ↔ _
    rw [List.mem_append, ih, List.mem_singleton]
    constructor
    · rintro (⟨i, hi, h⟩ | h)
      · exact ⟨i, by omega, h⟩
      · exact ⟨n, by omega, h⟩
    · rintro ⟨i, hi, h⟩
      rcases Nat.lt_succ_iff_lt_or_eq.1 hi with hi | rfl
      · exact .inl ⟨i, hi, h⟩
      · exact .inr h
/-- how much is to be done -/
def wsum : List It2 → Nat
  | [] => 0
  | p :: t => p.1.F.size + 1 + wsum t
theorem wsum_append (A B : List It2) : wsum (A ++ B) = wsum A + wsum B := by
  induction A with
  | nil => show wsum B = 0 + wsum B; omega
  | cons p t ih => show p.1.F.size + 1 + wsum (t ++ B) = p.1.F.size + 1 + wsum t + wsum B; omega
def Fo.upTo (F : Fo) : Nat → Nat
  | 0 => 0
  | n + 1 => F.upTo n + ((F.kidsAt n).size + 1)
theorem wsum_kids (F G : Fo) (n : Nat) : wsum (kidPairs F G n) = F.upTo n := by
  induction n with
  | zero => rfl
  | succ n ih => show wsum (kidPairs F G n ++ [(F.itAt n, G.itAt n)]) = F.upTo n + ((F.kidsAt n).size + 1); rw [wsum_append, ih]; rfl
theorem upTo_next (k : Int) (t : ByteArray) (m e : Int) (a : Option Addr) (c : Nat) (kids next : Fo) (n : Nat) : (Fo.cons k t m e a c kids next).upTo (n + 1) = kids.size + 1 + next.upTo n := by
  induction n with
  | zero => show 0 + (kids.size + 1) = kids.size + 1 + 0; omega
  | succ n ih => show (Fo.cons k t m e a c kids next).upTo (n + 1) + ((next.kidsAt n).size + 1) = kids.size + 1 + (next.upTo n + ((next.kidsAt n).size + 1)); omega
theorem upTo_len (F : Fo) : F.upTo F.len = F.size := by
  induction F with
  | nil => rfl
  | cons k t m e a c kids next _ ih => show (Fo.cons k t m e a c kids next).upTo (next.len + 1) = kids.size + 1 + next.size; rw [upTo_next, ih]
/-- what the loop keeps: S is to be done, L was met, D is done -/
structure Loop (w : World) (top : It2) (T : Nat) (S : List It2) (L : List (Pl2 × Value)) (D : List It2) : Prop where
  fwd : same2 top → ∀ p ∈ S, same2 p
  heads : ∀ p ∈ D, hsame p = true
  closed : ∀ p ∈ D, ∀ i, i < p.1.F.len → (p.1.F.itAt i, p.2.F.itAt i) ∈ D ∨ (p.1.F.itAt i, p.2.F.itAt i) ∈ S
  has : top ∈ D ∨ top ∈ S
  keys : ∀ x v, getL x L = some v → ∃ p ∈ D, x = (p.1.pl, p.2.pl)
  vals : ∀ x v, getL x L = some v → ∃ n : Nat, v = .int .i64 n ∧ 1 ≤ n ∧ n ≤ D.length
  room : D.length + wsum S ≤ T
  lie : ∀ p, p ∈ D ∨ p ∈ S → p.1.F.In w p.1.a ∧ p.2.F.In w p.2.a
theorem Loop.start {w : World} {top : It2} (h : top.1.F.In w top.1.a ∧ top.2.F.In w top.2.a) : Loop w top (top.1.F.size + 1) [top] [] [] where
  fwd := fun h p hp => by rw [List.mem_singleton] at hp; subst hp; exact h
  heads := fun p hp => absurd hp List.not_mem_nil
  closed := fun p hp => absurd hp List.not_mem_nil
  has := .inr (List.mem_singleton.2 rfl)
  keys := fun x v h => by cases h
  vals := fun x v h => by cases h
  room := by show 0 + (top.1.F.size + 1 + 0) ≤ _; omega
  lie := fun p hp => by
    rcases hp with hp | hp
    · exact absurd hp List.not_mem_nil
    · rw [List.mem_singleton] at hp; subst hp; exact h
theorem Loop.done {w : World} {top : It2} {T : Nat} {L : List (Pl2 × Value)} {D : List It2} (h : Loop w top T [] L D) : same2 top := by
  have ht : top ∈ D := by rcases h.has with h | h; exact h; cases h
  refine closed_same (fun p => p ∈ D) (fun p hp => ⟨h.heads p hp, fun i hi => ?_⟩) (top.1.F.size + 1) top (Nat.lt_succ_self _) ht
  rcases h.closed p hp i hi with h | h
  · exact h
  · cases h
theorem In_kid {w : World} {F : Fo} {a : Option Addr} (h : F.In w a) {i : Nat} (hi : i < F.len) : (F.kidsAt i).In w (F.addrAt i) := by
  obtain ⟨b, o, _, hF⟩ := Fo.from_of_len' h hi
  exact (Fo.from_at hF hi).2.1
theorem mem_move {S D : List It2} {p q : It2} (h : q ∈ D ∨ q ∈ S ++ [p]) : q ∈ p :: D ∨ q ∈ S := by
  rcases h with h | h
  · exact .inl (List.mem_cons_of_mem _ h)
  · rcases List.mem_append.1 h with h | h
    · exact .inr h
    · rw [List.mem_singleton] at h; subst h; exact .inl List.mem_cons_self
/-- a pair whose lists were not met -/
theorem Loop.new {w : World} {top p : It2} {T : Nat} {S D : List It2} {L : List (Pl2 × Value)} (h : Loop w top T (S ++ [p]) L D) (hp : hsame p = true) :
    Loop w top T (S ++ kidPairs p.1.F p.2.F p.1.F.len) (putL (p.1.pl, p.2.pl) (.int .i64 1) L) (p :: D) where
  fwd := fun ht q hq => by
    rcases List.mem_append.1 hq with hq | hq
    · exact h.fwd ht q (List.mem_append_left _ hq)
    · obtain ⟨i, hi, rfl⟩ := kidPairs_mem.1 hq
      exact alike_kids (h.fwd ht p (by simp)).2 i hi
  heads := fun q hq => by
    rcases List.mem_cons.1 hq with rfl | hq
    · exact hp
    · exact h.heads q hq
  closed := fun q hq i hi => by
    rcases List.mem_cons.1 hq with rfl | hq
    · exact .inr (List.mem_append_right _ (kidPairs_mem.2 ⟨i, hi, rfl⟩))
    · rcases mem_move (h.closed q hq i hi) with h | h
      · exact .inl h
      · exact .inr (List.mem_append_left _ h)
  has := by
    rcases mem_move h.has with h | h
    · exact .inl h
    · exact .inr (List.mem_append_left _ h)
  keys := fun x v hx => by
    rw [getL_put] at hx
    by_cases hxk : x = (p.1.pl, p.2.pl)
    · exact ⟨p, List.mem_cons_self, hxk⟩
    · rw [if_neg hxk] at hx
      obtain ⟨q, hq, e⟩ := h.keys x v hx
      exact ⟨q, List.mem_cons_of_mem _ hq, e⟩
  vals := fun x v hx => by
    rw [getL_put] at hx
    by_cases hxk : x = (p.1.pl, p.2.pl)
    · rw [if_pos hxk] at hx
      cases hx
      exact ⟨1, rfl, by omega, by show 1 ≤ D.length + 1; omega⟩
    · rw [if_neg hxk] at hx
      obtain ⟨n', e1, e2, e3⟩ := h.vals x v hx
      exact ⟨n', e1, e2, by show n' ≤ D.length + 1; omega⟩
  room := by
    have := h.room
    rw [wsum_append] at this ⊢
    rw [wsum_kids, upTo_len]
    have e : wsum [p] = p.1.F.size + 1 + 0 := rfl
    show D.length + 1 + (wsum S + p.1.F.size) ≤ T
    omega
  lie := fun q hq => by
    rcases hq with hq | hq
    · rcases List.mem_cons.1 hq with rfl | hq
      · exact h.lie q (.inr (by simp))
      · exact h.lie q (.inl hq)
    · rcases List.mem_append.1 hq with hq | hq
      · exact h.lie q (.inr (List.mem_append_left _ hq))
      · obtain ⟨i, hi, rfl⟩ := kidPairs_mem.1 hq
        have hl := h.lie p (.inr (by simp))
        have hlen := ((hsame_iff p).1 hp).2
        exact ⟨In_kid hl.1 hi, In_kid hl.2 (by omega)⟩
end Go.Proofs.Ytfgchdnpbbgmjaa
/- TreeSame of the specification. -/
namespace Go.Proofs.Ytfgchdnpbbgmjaa
open Go.RowKit
/-- a truth that says whether -/
def SaysT (p : Prop) (r : Ending) : Prop := ∃ q : Bool, r = .returned (.bool q) ∧ (q = true ↔ p)
end Go.Proofs.Ytfgchdnpbbgmjaa
/- Values: a value put into an object, by the specification: the two regions with three appends each. -/
namespace Go.Proofs.Ytfgchdnpbbgmjaa
open Go.RowKit
theorem textInfo : (Try.prog.info? 9).map (fun i => (i.zero, i.size, i.bytes)) = some (some (.string ⟨#[]⟩), 1, 16) := by kernel_rfl
theorem own_nothing (W : World) (B size : Nat) (e : TypeId) (hB : B ≤ W.heap.size) : (W.alloc (.cells #[] e)).ownsRow B e size (.slice (some ⟨W.heap.size, 0, none⟩) 0 0) 0 [] := World.ownsRow_lit W #[] 0 hB (by unfold maxLen; omega) (by simp)
/-- cells in a block of their own -/
def Own0 (w : World) (B g : Nat) (L : List Value) : Prop := B ≤ g ∧ g < w.heap.size ∧ ∀ i v, L[i]? = some v → w.cell? ⟨g, i, none⟩ = some v
theorem Own0.new (w : World) (B : Nat) (L : List Value) (T : TypeId) (h : B ≤ w.heap.size) : Own0 (w.alloc (.cells L.toArray T)) B w.heap.size L := ⟨h, by simp, fun i v hi => by rw [World.cell?_alloc_new]; simpa using hi⟩
theorem Own0.below {w w' : World} {B g : Nat} {L : List Value} (h : Own0 w B g L) (hb : Below w.heap.size w w') : Own0 w' B g L := ⟨h.1, Nat.lt_of_lt_of_le h.2.1 hb.size, fun i v hi => (hb.cell (p := ⟨g, i, none⟩) h.2.1).trans (h.2.2 i v hi)⟩
theorem Own0.grown {w w' : World} {B g : Nat} {L : List Value} {r : Option Nat} (h : Own0 w B g L) (hg : w.grownBy w' r) (hr : r ≠ some g) : Own0 w' B g L := ⟨h.1, Nat.lt_of_lt_of_le h.2.1 hg.size, fun i v hi => hg.cell (h.2.2 i v hi) (fun e => hr e.symm)⟩
theorem Own0.src {w : World} {B g : Nat} {L : List Value} (h : Own0 w B g L) (m : Nat) : Src w (some ⟨g, 0, none⟩) m L := .inr ⟨_, rfl, fun j u hj => by rw [addr_add, Nat.zero_add]; exact h.2.2 j u hj⟩
theorem own_keep {w w' : World} {base : Nat} {e : TypeId} {size : Nat} {v : Value} {n : Nat} {xs : List Value} (h : w.ownsRow base e size v n xs) (hb : Below w.heap.size w w') : w'.ownsRow base e size v n xs := by
  obtain ⟨h1, h2⟩ := h
  refine ⟨h1, ?_⟩
  rcases h2 with h2 | ⟨g, cap, cur, e1, e2, e3, e4, e5, e6, e7⟩
  · exact .inl h2
  · exact .inr ⟨g, cap, cur, e1, e2, by rw [hb.block g (Array.getElem?_eq_some_iff.1 e3).1]; exact e3, e4, e5, e6, e7⟩
set_option maxRecDepth 100000 in
set_option maxHeartbeats 2000000 in
theorem u7 {Q : Exit → Act → World → Prop} {t0 t2 t3 t5 t6 t7 t8 t9 t12 t13 t14 t15 t16 t17 t18 t19 t20 t21 t22 t23 t24 t25 t26 t27 t28 t29 t30 t31 t32 t33 t34 t35 t36 t37 t38 t39 t40 t41 t42 t43 t44 t45 t46 t47 t48 t49 t50 t51 t52 t53 t54 t55 t56 t57 t58 t59 t60 t61 t62 t63 t64 t65 : Value} {W : World} {vb ob k n : Nat} {na : Option Addr} {nc : Nat} {L : List Value} {s : ByteArray}
    (hnv : ¬ vb = ob) (hv : W.cell? ⟨vb, 5, none⟩ = some (.slice na n nc)) (hL : Lies W na L) (hl : L.length = n * 1) (h1 : ∀ u ∈ L, u.oneCell' = true) (hn : n ≤ nc ∧ nc ≤ maxLen) (hk : k ≤ n) (hN : n ≤ 1100000) (hob : ∃ u, W.cell? ⟨ob, 5, none⟩ = some u) (hof : W.frozen? ⟨ob, 5, none⟩ = false)
    (hp : ∀ p d v a w, Q (.panic p) (Act.put a d v) w → Q (.panic p) a w) (h : ∀ W1 v' v34 v35 v36 v37 v38 v39 v40 v41 v42 v43 v44 v45 v46 v48, Below W.heap.size W W1 → W1.ownsRow W.heap.size 9 1 v' (n + 1) (L.take (k * 1) ++ ([Value.string s] ++ L.drop (k * 1))) → Q .normal { tmps := (t0 :: .string s :: t2 :: t3 :: .pointer (some ⟨vb, 0, none⟩) :: t5 :: t6 :: t7 :: t8 :: t9 :: .int .i64 (k : Nat) :: .pointer (some ⟨ob, 0, none⟩) :: t12 :: t13 :: t14 :: t15 :: t16 :: t17 :: t18 :: t19 :: t20 :: t21 :: t22 :: t23 :: t24 :: t25 :: t26 :: t27 :: t28 :: t29 :: t30 :: t31 :: t32 :: t33 :: v34 :: v35 :: v36 :: v37 :: v38 :: v39 :: v40 :: v41 :: v42 :: v43 :: v44 :: v45 :: v46 :: v' :: v48 :: t49 :: t50 :: t51 :: t52 :: t53 :: t54 :: t55 :: t56 :: t57 :: t58 :: t59 :: t60 :: t61 :: t62 :: t63 :: t64 :: t65 :: []).toArray, defers := [] } (W1.setCell ⟨ob, 5, none⟩ v')) :
    Code.wp Try.prog (Code.region 7 #[{ dst := some 34, op := Op.buildSlice 26 0 #[], type := 26, pos := "l7_value.go:308", after := #[], guard := none }, { dst := some 35, op := Op.fieldAddr 28 (Operand.tmp 4) 4, type := 0, pos := "l7_value.go:308", after := #[], guard := none }, { dst := some 36, op := Op.load 26 (Operand.tmp 35), type := 26, pos := "l7_value.go:308", after := #[{ on := 1, ground := Ground.data }], guard := none }, { dst := some 37, op := Op.move (Operand.tmp 10), type := 3, pos := "l7_value.go:308", after := #[], guard := none }, { dst := some 38, op := Op.slice 26 (Operand.tmp 36) none (some (Operand.tmp 37)) none, type := 26, pos := "l7_value.go:308", after := #[{ on := 2, ground := Ground.data }, { on := 3, ground := Ground.data }], guard := none }, { dst := some 39, op := Op.call { callee := Callee.builtin Builtin.append, args := #[Operand.tmp 34, Operand.tmp 38], argTypes := #[26, 26] }, type := 26, pos := "l7_value.go:308", after := #[{ on := 0, ground := Ground.data }, { on := 4, ground := Ground.data }], guard := none }, { dst := some 40, op := Op.move (Operand.tmp 1), type := 9, pos := "l7_value.go:308", after := #[], guard := none }, { dst := some 41, op := Op.buildSlice 26 1 #[(0, Operand.tmp 40)], type := 26, pos := "l7_value.go:308", after := #[{ on := 6, ground := Ground.data }], guard := none }, { dst := some 42, op := Op.call { callee := Callee.builtin Builtin.append, args := #[Operand.tmp 39, Operand.tmp 41], argTypes := #[26, 26] }, type := 26, pos := "l7_value.go:308", after := #[{ on := 5, ground := Ground.data }, { on := 7, ground := Ground.data }, { on := 5, ground := Ground.chain }], guard := none }, { dst := some 43, op := Op.fieldAddr 28 (Operand.tmp 4) 4, type := 0, pos := "l7_value.go:308", after := #[], guard := none }, { dst := some 44, op := Op.load 26 (Operand.tmp 43), type := 26, pos := "l7_value.go:308", after := #[{ on := 9, ground := Ground.data }], guard := none }, { dst := some 45, op := Op.move (Operand.tmp 10), type := 3, pos := "l7_value.go:308", after := #[], guard := none }, { dst := some 46, op := Op.slice 26 (Operand.tmp 44) (some (Operand.tmp 45)) none none, type := 26, pos := "l7_value.go:308", after := #[{ on := 10, ground := Ground.data }, { on := 11, ground := Ground.data }], guard := none }, { dst := some 47, op := Op.call { callee := Callee.builtin Builtin.append, args := #[Operand.tmp 42, Operand.tmp 46], argTypes := #[26, 26] }, type := 26, pos := "l7_value.go:308", after := #[{ on := 8, ground := Ground.data }, { on := 12, ground := Ground.data }, { on := 8, ground := Ground.chain }], guard := none }, { dst := some 48, op := Op.fieldAddr 28 (Operand.tmp 11) 4, type := 0, pos := "l7_value.go:308", after := #[{ on := 0, ground := Ground.phase }, { on := 1, ground := Ground.phase }, { on := 2, ground := Ground.phase }, { on := 3, ground := Ground.phase }, { on := 4, ground := Ground.phase }, { on := 5, ground := Ground.phase }, { on := 6, ground := Ground.phase }, { on := 7, ground := Ground.phase }, { on := 8, ground := Ground.phase }, { on := 9, ground := Ground.phase }, { on := 10, ground := Ground.phase }, { on := 11, ground := Ground.phase }, { on := 12, ground := Ground.phase }, { on := 13, ground := Ground.phase }], guard := none }, { dst := none, op := Op.store 26 (Operand.tmp 48) (Operand.tmp 47), type := 0, pos := "l7_value.go:308", after := #[{ on := 14, ground := Ground.data }, { on := 13, ground := Ground.data }, { on := 13, ground := Ground.chain }, { on := 0, ground := Ground.phase }, { on := 1, ground := Ground.phase }, { on := 2, ground := Ground.phase }, { on := 3, ground := Ground.phase }, { on := 4, ground := Ground.phase }, { on := 5, ground := Ground.phase }, { on := 6, ground := Ground.phase }, { on := 7, ground := Ground.phase }, { on := 8, ground := Ground.phase }, { on := 9, ground := Ground.phase }, { on := 10, ground := Ground.phase }, { on := 11, ground := Ground.phase }, { on := 12, ground := Ground.phase }, { on := 13, ground := Ground.phase }], guard := none }] true) Q { tmps := (t0 :: .string s :: t2 :: t3 :: .pointer (some ⟨vb, 0, none⟩) :: t5 :: t6 :: t7 :: t8 :: t9 :: .int .i64 (k : Nat) :: .pointer (some ⟨ob, 0, none⟩) :: t12 :: t13 :: t14 :: t15 :: t16 :: t17 :: t18 :: t19 :: t20 :: t21 :: t22 :: t23 :: t24 :: t25 :: t26 :: t27 :: t28 :: t29 :: t30 :: t31 :: t32 :: t33 :: t34 :: t35 :: t36 :: t37 :: t38 :: t39 :: t40 :: t41 :: t42 :: t43 :: t44 :: t45 :: t46 :: t47 :: t48 :: t49 :: t50 :: t51 :: t52 :: t53 :: t54 :: t55 :: t56 :: t57 :: t58 :: t59 :: t60 :: t61 :: t62 :: t63 :: t64 :: t65 :: []).toArray, defers := [] } W := by
  obtain ⟨i0, hi, hz0, hz1, hz2⟩ := info_parts textInfo
  obtain ⟨hn1, hn2⟩ := hn
  unfold maxLen at hn2
  have hvl := World.block_lt_of_cell? W _ hv
  obtain ⟨ou, hou⟩ := hob
  have hol := World.block_lt_of_cell? W _ hou
  have HV : Hid (∀ w', Below W.heap.size W w' → w'.cell? ⟨vb, 5, none⟩ = some (.slice na n nc)) := fun w' h => (h.cell (p := ⟨vb, 5, none⟩) hvl).trans hv
  have HO : Hid (∀ w', Below W.heap.size W w' → w'.cell? ⟨ob, 5, none⟩ = some ou ∧ w'.frozen? ⟨ob, 5, none⟩ = false) := fun w' h => ⟨(h.cell (p := ⟨ob, 5, none⟩) hol).trans hou, (h.frozen (p := ⟨ob, 5, none⟩) hol).trans hof⟩
  have HT : Hid (∀ w', Below W.heap.size W w' → Src w' na k (L.take (k * 1))) := fun w' h => Lies.take0 (hL.grow h) hl (by omega) k hk
  have HD : Hid (∀ w', Below W.heap.size W w' → Src w' (if nc = k then na else na.map (fun x => x.add (k))) (n - k) (L.drop (k * 1))) := fun w' h => by have := Lies.drop (hL.grow h) hl (by omega) k nc hn1; simpa using this
  have HL : Hid ((L.take (k * 1)).length = k * 1 ∧ (L.drop (k * 1)).length = (n - k) * 1) := ⟨by rw [List.length_take, hl]; exact Nat.min_eq_left (Nat.mul_le_mul_right _ hk), by rw [List.length_drop, hl, Nat.sub_mul]⟩
  have H1 : Hid ((∀ u ∈ L.take (k * 1), u.oneCell' = true) ∧ (∀ u ∈ L.drop (k * 1), u.oneCell' = true)) := ⟨fun u hu => h1 u (List.mem_of_mem_take hu), fun u hu => h1 u (List.mem_of_mem_drop hu)⟩
  clear hv hL hl h1 hou hof
  have HS : Hid (∀ w', Below W.heap.size W w' → (w'.cell? ⟨vb, 5, none⟩ = some (.slice na n nc))) := fun w' h => HV.out w' h
  have hB0 : Below W.heap.size W W.drew := (Below.refl _ W).drew
  have hS0 := HS.out _ hB0
  refine wp_region_held_drew (S := fun w' => w'.cell? ⟨vb, 5, none⟩ = some (.slice na n nc)) (by kernel_rfl) hS0 (fun hHeld => ?_)
  generalize W.drew = Wd at *
  refine wpAnyH_take (i := 1) (v := .pointer (some ⟨vb, 5, none⟩)) rfl (by kernel_rfl) (by kernel_rfl) (by kernel_rfl) (fun _ _ _ h => hp _ _ _ _ _ h) (Or.inl ⟨by rfl, ?_⟩) (by assumption) ?_
  · intro w hSw
    (try dsimp only at hSw)
    go_simp
  (try simp only [Act.put, List.getElem_toArray, List.getElem_cons_zero, List.getElem_cons_succ, List.setIfInBounds_toArray, List.set_cons_zero, List.set_cons_succ])
  refine wpAnyH_take (i := 2) (v := .slice na n nc) rfl (by kernel_rfl) (by kernel_rfl) (by kernel_rfl) (fun _ _ _ h => hp _ _ _ _ _ h) (Or.inl ⟨by rfl, ?_⟩) (by assumption) ?_
  · intro w hSw
    (try dsimp only at hSw)
    (go_simp)
  (try simp only [Act.put, List.getElem_toArray, List.getElem_cons_zero, List.getElem_cons_succ, List.setIfInBounds_toArray, List.set_cons_zero, List.set_cons_succ])
  refine wpAnyH_take (i := 3) (v := .int .i64 (k : Nat)) rfl (by kernel_rfl) (by kernel_rfl) (by kernel_rfl) (fun _ _ _ h => hp _ _ _ _ _ h) (Or.inl ⟨by rfl, ?_⟩) (by assumption) ?_
  · intro w hSw
    (try dsimp only at hSw)
    go_simp
  (try simp only [Act.put, List.getElem_toArray, List.getElem_cons_zero, List.getElem_cons_succ, List.setIfInBounds_toArray, List.set_cons_zero, List.set_cons_succ])
  refine wpAnyH_take (i := 4) (v := .slice na k nc) rfl (by kernel_rfl) (by kernel_rfl) (by kernel_rfl) (fun _ _ _ h => hp _ _ _ _ _ h) (Or.inl ⟨by rfl, ?_⟩) (by assumption) ?_
  · intro w hSw
    (try dsimp only at hSw)
    (go_simp <;> first | done | omega | (simp [sliced]; omega) | simp [sliced])
  (try simp only [Act.put, List.getElem_toArray, List.getElem_cons_zero, List.getElem_cons_succ, List.setIfInBounds_toArray, List.set_cons_zero, List.set_cons_succ])
  refine wpAnyH_take (i := 6) (v := .string s) rfl (by kernel_rfl) (by kernel_rfl) (by kernel_rfl) (fun _ _ _ h => hp _ _ _ _ _ h) (Or.inl ⟨by rfl, ?_⟩) (by assumption) ?_
  · intro w hSw
    (try dsimp only at hSw)
    go_simp
  (try simp only [Act.put, List.getElem_toArray, List.getElem_cons_zero, List.getElem_cons_succ, List.setIfInBounds_toArray, List.set_cons_zero, List.set_cons_succ])
  refine wpAnyH_take (i := 9) (v := .pointer (some ⟨vb, 5, none⟩)) rfl (by kernel_rfl) (by kernel_rfl) (by kernel_rfl) (fun _ _ _ h => hp _ _ _ _ _ h) (Or.inl ⟨by rfl, ?_⟩) (by assumption) ?_
  · intro w hSw
    (try dsimp only at hSw)
    go_simp
  (try simp only [Act.put, List.getElem_toArray, List.getElem_cons_zero, List.getElem_cons_succ, List.setIfInBounds_toArray, List.set_cons_zero, List.set_cons_succ])
  refine wpAnyH_take (i := 10) (v := .slice na n nc) rfl (by kernel_rfl) (by kernel_rfl) (by kernel_rfl) (fun _ _ _ h => hp _ _ _ _ _ h) (Or.inl ⟨by rfl, ?_⟩) (by assumption) ?_
  · intro w hSw
    (try dsimp only at hSw)
    (go_simp)
  (try simp only [Act.put, List.getElem_toArray, List.getElem_cons_zero, List.getElem_cons_succ, List.setIfInBounds_toArray, List.set_cons_zero, List.set_cons_succ])
  refine wpAnyH_take (i := 11) (v := .int .i64 (k : Nat)) rfl (by kernel_rfl) (by kernel_rfl) (by kernel_rfl) (fun _ _ _ h => hp _ _ _ _ _ h) (Or.inl ⟨by rfl, ?_⟩) (by assumption) ?_
  · intro w hSw
    (try dsimp only at hSw)
    go_simp
  (try simp only [Act.put, List.getElem_toArray, List.getElem_cons_zero, List.getElem_cons_succ, List.setIfInBounds_toArray, List.set_cons_zero, List.set_cons_succ])
  refine wpAnyH_take (i := 12) (v := .slice (if nc = k then na else na.map (fun x => x.add (k))) (n - k) (nc - k)) rfl (by kernel_rfl) (by kernel_rfl) (by kernel_rfl) (fun _ _ _ h => hp _ _ _ _ _ h) (Or.inl ⟨by rfl, ?_⟩) (by assumption) ?_
  · intro w hSw
    (try dsimp only at hSw)
    (go_simp <;> first | done | omega | (simp [sliced]; omega) | simp [sliced])
  (try simp only [Act.put, List.getElem_toArray, List.getElem_cons_zero, List.getElem_cons_succ, List.setIfInBounds_toArray, List.set_cons_zero, List.set_cons_succ])
  clear hS0 hHeld
  refine wpAnyH_ready (rs := [0, 7]) (by kernel_rfl) (by simp) ?_
  refine AllReadyH.cons rfl (fun K hK => ?_) (AllReadyH.cons rfl (fun K hK => ?_) AllReadyH.nil)
  · skip
    go_simp
    obtain ⟨g0, hg0⟩ : ∃ g, Wd.heap.size = g := ⟨_, rfl⟩
    have hz0 := hB0.size
    have hown := own_nothing Wd W.heap.size 1 9 hB0.size
    have hB1 := hB0.alloc hB0.size (.cells #[] 9)
    refine hK.out _ _ (HS.out _ hB1) (fun hHeld => ?_)
    clear hK K hHeld hB0
    have hB0 := hB1
    clear hB1
    rw [hg0] at hown ⊢
    obtain ⟨vo, hvo⟩ : ∃ vo, vo = Value.slice (some ⟨g0, 0, none⟩) 0 0 := ⟨_, rfl⟩
    rw [← hvo] at hown ⊢
    clear hvo
    generalize Wd.alloc (.cells #[] 9) = W83 at *
    clear hg0 hz0
    refine wpAnyH_ready (rs := [5, 7]) (by kernel_rfl) (by simp) ?_
    refine AllReadyH.cons rfl (fun K hK => ?_) (AllReadyH.cons rfl (fun K hK => ?_) AllReadyH.nil)
    · skip
      refine wp_append_lie W83 _ _ 26 rfl W.heap.size 9 i0 _ 1 16 Try.underlying26 hi hz0 hz1 hz2 rfl (by decide) vo 0 [] rfl hown na k nc (L.take (k * 1)) rfl HL.out.1 (HT.out _ hB0) H1.out.1 (by unfold maxLen; omega) (by omega) hB0.size ?_
      intro vo2 W88 hown2 hgr hbl
      have hB1 := below_grown hB0 hown hgr hB0.size
      refine hK.out _ _ (HS.out _ hB1) (fun hHeld => ?_)
      clear hK K hHeld hB0 hown hgr hbl
      have hB0 := hB1
      clear hB1
      have hown := hown2
      clear hown2
      (try simp only [Act.put, List.getElem_toArray, List.getElem_cons_zero, List.getElem_cons_succ, List.setIfInBounds_toArray, List.set_cons_zero, List.set_cons_succ])
      rw [List.nil_append, Nat.zero_add] at hown
      skip
      refine wpAnyH_ready (rs := [7]) (by kernel_rfl) (by simp) ?_
      refine AllReadyH.cons rfl (fun K hK => ?_) AllReadyH.nil
      go_simp
      obtain ⟨g7, hg7⟩ : ∃ g, W88.heap.size = g := ⟨_, rfl⟩
      have hel : Own0 (W88.alloc (.cells #[.string s] 9)) W.heap.size W88.heap.size ([Value.string s]) := Own0.new W88 W.heap.size [.string s] 9 hB0.size
      have hown2 := own_keep hown ((Below.refl _ W88).alloc (Nat.le_refl _) (.cells #[.string s] 9))
      have hne : ∀ r, Value.ownBlock vo2 = some r → r ≠ g7 := fun r hr => by have := (hown.lt r hr).2; omega
      clear hown
      have hown := hown2
      clear hown2
      have hB1 := hB0.alloc hB0.size (.cells #[.string s] 9)
      refine hK.out _ _ (HS.out _ hB1) (fun hHeld => ?_)
      clear hK K hHeld hB0
      have hB0 := hB1
      clear hB1
      rw [hg7] at hel ⊢
      generalize W88.alloc (.cells #[.string s] 9) = W104 at *
      clear hg7
      refine wpAnyH_ready (rs := [8]) (by kernel_rfl) (by simp) ?_
      refine AllReadyH.cons rfl (fun K hK => ?_) AllReadyH.nil
      refine wp_append_lie W104 _ _ 26 rfl W.heap.size 9 i0 _ 1 16 Try.underlying26 hi hz0 hz1 hz2 rfl (by decide) vo2 k _ rfl hown (some ⟨g7, 0, none⟩) 1 1 ([Value.string s]) rfl rfl (hel.src 1) (fun u hu => by simp at hu; subst hu; rfl) (by unfold maxLen; omega) (by omega) hB0.size ?_
      intro vo3 W118 hown2 hgr _
      have hB1 := below_grown hB0 hown hgr hB0.size
      refine hK.out _ _ (HS.out _ hB1) (fun hHeld => ?_)
      clear hK K hHeld hB0 hown hgr hel hne
      have hB0 := hB1
      clear hB1
      have hown := hown2
      clear hown2
      (try simp only [Act.put, List.getElem_toArray, List.getElem_cons_zero, List.getElem_cons_succ, List.setIfInBounds_toArray, List.set_cons_zero, List.set_cons_succ])
      refine wpAnyH_ready (rs := [13]) (by kernel_rfl) (by simp) ?_
      refine AllReadyH.cons rfl (fun K hK => ?_) AllReadyH.nil
      refine wp_append_lie W118 _ _ 26 rfl W.heap.size 9 i0 _ 1 16 Try.underlying26 hi hz0 hz1 hz2 rfl (by decide) vo3 (k + 1) _ rfl hown (if nc = k then na else na.map (fun x => x.add (k))) (n - k) (nc - k) (L.drop (k * 1)) rfl HL.out.2 (HD.out _ hB0) H1.out.2 (by unfold maxLen; omega) (by omega) hB0.size ?_
      intro v' W118b hown2 hgr _
      have hB1 := below_grown hB0 hown hgr hB0.size
      refine hK.out _ _ (HS.out _ hB1) (fun hHeld => ?_)
      clear hK K hB0 hown hgr
      (try simp only [Act.put, List.getElem_toArray, List.getElem_cons_zero, List.getElem_cons_succ, List.setIfInBounds_toArray, List.set_cons_zero, List.set_cons_succ])
      refine wpAnyH_take (i := 14) (v := .pointer (some ⟨ob, 5, none⟩)) rfl (by kernel_rfl) (by kernel_rfl) (by kernel_rfl) (fun _ _ _ h => hp _ _ _ _ _ h) (Or.inl ⟨by rfl, ?_⟩) (by assumption) ?_
      · intro w hSw
        (try dsimp only at hSw)
        go_simp
      (try simp only [Act.put, List.getElem_toArray, List.getElem_cons_zero, List.getElem_cons_succ, List.setIfInBounds_toArray, List.set_cons_zero, List.set_cons_succ])
      obtain ⟨hoc, hofz⟩ := HO.out _ hB1
      rw [show k + 1 + (n - k) = n + 1 by omega, List.append_assoc] at hown2
      obtain ⟨g9, c9, rfl, _, _⟩ := hown2.form (by omega)
      refine wpAnyH_ready (rs := [15]) (by kernel_rfl) (by simp) ?_
      refine AllReadyH.cons rfl (fun K hK => ?_) AllReadyH.nil
      go_simp
      refine hK.out _ _ ?_ (fun hHeld => ?_)
      · exact (World.cell?_setCell_other _ _ _ _ (fun e => hnv (by simpa using congrArg Addr.block e.symm))).trans (HV.out _ hB1)
      refine wpAnyH_done (by kernel_rfl) ?_ _
      exact h _ _ _ _ _ _ _ _ _ _ _ _ _ _ _ _ hB1 hown2
    · skip
      go_simp
      obtain ⟨g7, hg7⟩ : ∃ g, W83.heap.size = g := ⟨_, rfl⟩
      have hz7 := hB0.size
      have hel : Own0 (W83.alloc (.cells #[.string s] 9)) W.heap.size W83.heap.size ([Value.string s]) := Own0.new W83 W.heap.size [.string s] 9 hB0.size
      have hown2 := own_keep hown ((Below.refl _ W83).alloc (Nat.le_refl _) (.cells #[.string s] 9))
      have hne : ∀ r, Value.ownBlock vo = some r → r ≠ g7 := fun r hr => by have := (hown.lt r hr).2; omega
      clear hown
      have hown := hown2
      clear hown2
      have hB1 := hB0.alloc hB0.size (.cells #[.string s] 9)
      refine hK.out _ _ (HS.out _ hB1) (fun hHeld => ?_)
      clear hK K hHeld hB0
      have hB0 := hB1
      clear hB1
      rw [hg7] at hel ⊢
      generalize W83.alloc (.cells #[.string s] 9) = W169 at *
      clear hg7 hz7
      refine wpAnyH_ready (rs := [5]) (by kernel_rfl) (by simp) ?_
      refine AllReadyH.cons rfl (fun K hK => ?_) AllReadyH.nil
      refine wp_append_lie W169 _ _ 26 rfl W.heap.size 9 i0 _ 1 16 Try.underlying26 hi hz0 hz1 hz2 rfl (by decide) vo 0 [] rfl hown na k nc (L.take (k * 1)) rfl HL.out.1 (HT.out _ hB0) H1.out.1 (by unfold maxLen; omega) (by omega) hB0.size ?_
      intro vo2 W173 hown2 hgr hbl
      have hB1 := below_grown hB0 hown hgr hB0.size
      have hel2 := hel.grown hgr (fun e => hne _ e rfl)
      have hne2 : ∀ r, Value.ownBlock vo2 = some r → r ≠ g7 := fun r hr => by
        rcases hbl with hbl | hbl
        · exact hne r (hbl ▸ hr)
        · rw [hbl] at hr; cases hr; have := hel.2.1; omega
      refine hK.out _ _ (HS.out _ hB1) (fun hHeld => ?_)
      clear hK K hHeld hB0 hown hgr hbl hne hel
      have hB0 := hB1
      clear hB1
      have hown := hown2
      clear hown2
      (try simp only [Act.put, List.getElem_toArray, List.getElem_cons_zero, List.getElem_cons_succ, List.setIfInBounds_toArray, List.set_cons_zero, List.set_cons_succ])
      have hel := hel2
      have hne := hne2
      clear hel2 hne2
      rw [List.nil_append, Nat.zero_add] at hown
      skip
      refine wpAnyH_ready (rs := [8]) (by kernel_rfl) (by simp) ?_
      refine AllReadyH.cons rfl (fun K hK => ?_) AllReadyH.nil
      refine wp_append_lie W173 _ _ 26 rfl W.heap.size 9 i0 _ 1 16 Try.underlying26 hi hz0 hz1 hz2 rfl (by decide) vo2 k _ rfl hown (some ⟨g7, 0, none⟩) 1 1 ([Value.string s]) rfl rfl (hel.src 1) (fun u hu => by simp at hu; subst hu; rfl) (by unfold maxLen; omega) (by omega) hB0.size ?_
      intro vo3 W193 hown2 hgr _
      have hB1 := below_grown hB0 hown hgr hB0.size
      refine hK.out _ _ (HS.out _ hB1) (fun hHeld => ?_)
      clear hK K hHeld hB0 hown hgr hel hne
      have hB0 := hB1
      clear hB1
      have hown := hown2
      clear hown2
      (try simp only [Act.put, List.getElem_toArray, List.getElem_cons_zero, List.getElem_cons_succ, List.setIfInBounds_toArray, List.set_cons_zero, List.set_cons_succ])
      refine wpAnyH_ready (rs := [13]) (by kernel_rfl) (by simp) ?_
      refine AllReadyH.cons rfl (fun K hK => ?_) AllReadyH.nil
      refine wp_append_lie W193 _ _ 26 rfl W.heap.size 9 i0 _ 1 16 Try.underlying26 hi hz0 hz1 hz2 rfl (by decide) vo3 (k + 1) _ rfl hown (if nc = k then na else na.map (fun x => x.add (k))) (n - k) (nc - k) (L.drop (k * 1)) rfl HL.out.2 (HD.out _ hB0) H1.out.2 (by unfold maxLen; omega) (by omega) hB0.size ?_
      intro v' W193b hown2 hgr _
      have hB1 := below_grown hB0 hown hgr hB0.size
      refine hK.out _ _ (HS.out _ hB1) (fun hHeld => ?_)
      clear hK K hB0 hown hgr
      (try simp only [Act.put, List.getElem_toArray, List.getElem_cons_zero, List.getElem_cons_succ, List.setIfInBounds_toArray, List.set_cons_zero, List.set_cons_succ])
      refine wpAnyH_take (i := 14) (v := .pointer (some ⟨ob, 5, none⟩)) rfl (by kernel_rfl) (by kernel_rfl) (by kernel_rfl) (fun _ _ _ h => hp _ _ _ _ _ h) (Or.inl ⟨by rfl, ?_⟩) (by assumption) ?_
      · intro w hSw
        (try dsimp only at hSw)
        go_simp
      (try simp only [Act.put, List.getElem_toArray, List.getElem_cons_zero, List.getElem_cons_succ, List.setIfInBounds_toArray, List.set_cons_zero, List.set_cons_succ])
      obtain ⟨hoc, hofz⟩ := HO.out _ hB1
      rw [show k + 1 + (n - k) = n + 1 by omega, List.append_assoc] at hown2
      obtain ⟨g9, c9, rfl, _, _⟩ := hown2.form (by omega)
      refine wpAnyH_ready (rs := [15]) (by kernel_rfl) (by simp) ?_
      refine AllReadyH.cons rfl (fun K hK => ?_) AllReadyH.nil
      go_simp
      refine hK.out _ _ ?_ (fun hHeld => ?_)
      · exact (World.cell?_setCell_other _ _ _ _ (fun e => hnv (by simpa using congrArg Addr.block e.symm))).trans (HV.out _ hB1)
      refine wpAnyH_done (by kernel_rfl) ?_ _
      exact h _ _ _ _ _ _ _ _ _ _ _ _ _ _ _ _ hB1 hown2
  · skip
    go_simp
    obtain ⟨g7, hg7⟩ : ∃ g, Wd.heap.size = g := ⟨_, rfl⟩
    have hz7 := hB0.size
    have hel : Own0 (Wd.alloc (.cells #[.string s] 9)) W.heap.size Wd.heap.size ([Value.string s]) := Own0.new Wd W.heap.size [.string s] 9 hB0.size
    have hB1 := hB0.alloc hB0.size (.cells #[.string s] 9)
    refine hK.out _ _ (HS.out _ hB1) (fun hHeld => ?_)
    clear hK K hHeld hB0
    have hB0 := hB1
    clear hB1
    rw [hg7] at hel ⊢
    generalize Wd.alloc (.cells #[.string s] 9) = W239 at *
    clear hg7 hz7
    refine wpAnyH_ready (rs := [0]) (by kernel_rfl) (by simp) ?_
    refine AllReadyH.cons rfl (fun K hK => ?_) AllReadyH.nil
    go_simp
    obtain ⟨g0, hg0⟩ : ∃ g, W239.heap.size = g := ⟨_, rfl⟩
    have hz0 := hB0.size
    have hown := own_nothing W239 W.heap.size 1 9 hB0.size
    have hel2 := hel.below ((Below.refl _ W239).alloc (Nat.le_refl _) (.cells #[] 9))
    have hne : ∀ r, Value.ownBlock (.slice (some ⟨W239.heap.size, 0, none⟩) 0 0) = some r → r ≠ g7 := fun r hr => by simp [Value.ownBlock] at hr; have := hel.2.1; omega
    clear hel
    have hel := hel2
    clear hel2
    have hB1 := hB0.alloc hB0.size (.cells #[] 9)
    refine hK.out _ _ (HS.out _ hB1) (fun hHeld => ?_)
    clear hK K hHeld hB0
    have hB0 := hB1
    clear hB1
    rw [hg0] at hown hne ⊢
    obtain ⟨vo, hvo⟩ : ∃ vo, vo = Value.slice (some ⟨g0, 0, none⟩) 0 0 := ⟨_, rfl⟩
    rw [← hvo] at hown hne ⊢
    clear hvo
    generalize W239.alloc (.cells #[] 9) = W261 at *
    clear hg0 hz0
    refine wpAnyH_ready (rs := [5]) (by kernel_rfl) (by simp) ?_
    refine AllReadyH.cons rfl (fun K hK => ?_) AllReadyH.nil
    refine wp_append_lie W261 _ _ 26 rfl W.heap.size 9 i0 _ 1 16 Try.underlying26 hi hz0 hz1 hz2 rfl (by decide) vo 0 [] rfl hown na k nc (L.take (k * 1)) rfl HL.out.1 (HT.out _ hB0) H1.out.1 (by unfold maxLen; omega) (by omega) hB0.size ?_
    intro vo2 W265 hown2 hgr hbl
    have hB1 := below_grown hB0 hown hgr hB0.size
    have hel2 := hel.grown hgr (fun e => hne _ e rfl)
    have hne2 : ∀ r, Value.ownBlock vo2 = some r → r ≠ g7 := fun r hr => by
      rcases hbl with hbl | hbl
      · exact hne r (hbl ▸ hr)
      · rw [hbl] at hr; cases hr; have := hel.2.1; omega
    refine hK.out _ _ (HS.out _ hB1) (fun hHeld => ?_)
    clear hK K hHeld hB0 hown hgr hbl hne hel
    have hB0 := hB1
    clear hB1
    have hown := hown2
    clear hown2
    (try simp only [Act.put, List.getElem_toArray, List.getElem_cons_zero, List.getElem_cons_succ, List.setIfInBounds_toArray, List.set_cons_zero, List.set_cons_succ])
    have hel := hel2
    have hne := hne2
    clear hel2 hne2
    rw [List.nil_append, Nat.zero_add] at hown
    skip
    refine wpAnyH_ready (rs := [8]) (by kernel_rfl) (by simp) ?_
    refine AllReadyH.cons rfl (fun K hK => ?_) AllReadyH.nil
    refine wp_append_lie W265 _ _ 26 rfl W.heap.size 9 i0 _ 1 16 Try.underlying26 hi hz0 hz1 hz2 rfl (by decide) vo2 k _ rfl hown (some ⟨g7, 0, none⟩) 1 1 ([Value.string s]) rfl rfl (hel.src 1) (fun u hu => by simp at hu; subst hu; rfl) (by unfold maxLen; omega) (by omega) hB0.size ?_
    intro vo3 W285 hown2 hgr _
    have hB1 := below_grown hB0 hown hgr hB0.size
    refine hK.out _ _ (HS.out _ hB1) (fun hHeld => ?_)
    clear hK K hHeld hB0 hown hgr hel hne
    have hB0 := hB1
    clear hB1
    have hown := hown2
    clear hown2
    (try simp only [Act.put, List.getElem_toArray, List.getElem_cons_zero, List.getElem_cons_succ, List.setIfInBounds_toArray, List.set_cons_zero, List.set_cons_succ])
    refine wpAnyH_ready (rs := [13]) (by kernel_rfl) (by simp) ?_
    refine AllReadyH.cons rfl (fun K hK => ?_) AllReadyH.nil
    refine wp_append_lie W285 _ _ 26 rfl W.heap.size 9 i0 _ 1 16 Try.underlying26 hi hz0 hz1 hz2 rfl (by decide) vo3 (k + 1) _ rfl hown (if nc = k then na else na.map (fun x => x.add (k))) (n - k) (nc - k) (L.drop (k * 1)) rfl HL.out.2 (HD.out _ hB0) H1.out.2 (by unfold maxLen; omega) (by omega) hB0.size ?_
    intro v' W285b hown2 hgr _
    have hB1 := below_grown hB0 hown hgr hB0.size
    refine hK.out _ _ (HS.out _ hB1) (fun hHeld => ?_)
    clear hK K hB0 hown hgr
    (try simp only [Act.put, List.getElem_toArray, List.getElem_cons_zero, List.getElem_cons_succ, List.setIfInBounds_toArray, List.set_cons_zero, List.set_cons_succ])
    refine wpAnyH_take (i := 14) (v := .pointer (some ⟨ob, 5, none⟩)) rfl (by kernel_rfl) (by kernel_rfl) (by kernel_rfl) (fun _ _ _ h => hp _ _ _ _ _ h) (Or.inl ⟨by rfl, ?_⟩) (by assumption) ?_
    · intro w hSw
      (try dsimp only at hSw)
      go_simp
    (try simp only [Act.put, List.getElem_toArray, List.getElem_cons_zero, List.getElem_cons_succ, List.setIfInBounds_toArray, List.set_cons_zero, List.set_cons_succ])
    obtain ⟨hoc, hofz⟩ := HO.out _ hB1
    rw [show k + 1 + (n - k) = n + 1 by omega, List.append_assoc] at hown2
    obtain ⟨g9, c9, rfl, _, _⟩ := hown2.form (by omega)
    refine wpAnyH_ready (rs := [15]) (by kernel_rfl) (by simp) ?_
    refine AllReadyH.cons rfl (fun K hK => ?_) AllReadyH.nil
    go_simp
    refine hK.out _ _ ?_ (fun hHeld => ?_)
    · exact (World.cell?_setCell_other _ _ _ _ (fun e => hnv (by simpa using congrArg Addr.block e.symm))).trans (HV.out _ hB1)
    refine wpAnyH_done (by kernel_rfl) ?_ _
    exact h _ _ _ _ _ _ _ _ _ _ _ _ _ _ _ _ hB1 hown2
set_option maxRecDepth 100000 in
set_option maxHeartbeats 2000000 in
theorem u8 {Q : Exit → Act → World → Prop} {t0 t1 t2 t3 t5 t7 t8 t9 t12 t13 t14 t15 t16 t17 t18 t19 t20 t21 t22 t23 t24 t25 t26 t27 t28 t29 t30 t31 t32 t33 t34 t35 t36 t37 t38 t39 t40 t41 t42 t43 t44 t45 t46 t47 t48 t49 t50 t51 t52 t53 t54 t55 t56 t57 t58 t59 t60 t61 t62 t63 t64 t65 : Value} {W : World} {vb ob k n : Nat} {na : Option Addr} {nc : Nat} {L : List Value} {xb : Nat} {xh : Hd} {xa : Option Addr} {xn xc : Nat}
    (hnv : ¬ vb = ob) (hv : W.cell? ⟨vb, 4, none⟩ = some (.slice na n nc)) (hL : Lies W na L) (hl : L.length = n * 6) (h1 : ∀ u ∈ L, u.oneCell' = true) (hn : n ≤ nc ∧ nc ≤ maxLen) (hk : k ≤ n) (hN : n ≤ 1100000) (hob : ∃ u, W.cell? ⟨ob, 4, none⟩ = some u) (hof : W.frozen? ⟨ob, 4, none⟩ = false) (hnx : ¬ xb = ob) (hX : Cells6 W xb 0 xh (.slice xa xn xc))
    (hp : ∀ p d v a w, Q (.panic p) (Act.put a d v) w → Q (.panic p) a w) (h : ∀ W1 v' v49 v50 v51 v52 v53 v54 v55 v56 v57 v58 v59 v60 v61 v63, Below W.heap.size W W1 → W1.ownsRow W.heap.size 28 6 v' (n + 1) (L.take (k * 6) ++ (six xh xa xn xc ++ L.drop (k * 6))) → Q .normal { tmps := (t0 :: t1 :: t2 :: t3 :: .pointer (some ⟨vb, 0, none⟩) :: t5 :: .pointer (some ⟨xb, 0, none⟩) :: t7 :: t8 :: t9 :: .int .i64 (k : Nat) :: .pointer (some ⟨ob, 0, none⟩) :: t12 :: t13 :: t14 :: t15 :: t16 :: t17 :: t18 :: t19 :: t20 :: t21 :: t22 :: t23 :: t24 :: t25 :: t26 :: t27 :: t28 :: t29 :: t30 :: t31 :: t32 :: t33 :: t34 :: t35 :: t36 :: t37 :: t38 :: t39 :: t40 :: t41 :: t42 :: t43 :: t44 :: t45 :: t46 :: t47 :: t48 :: v49 :: v50 :: v51 :: v52 :: v53 :: v54 :: v55 :: v56 :: v57 :: v58 :: v59 :: v60 :: v61 :: v' :: v63 :: t64 :: t65 :: []).toArray, defers := [] } (W1.setCell ⟨ob, 4, none⟩ v')) :
    Code.wp Try.prog (Code.region 8 #[{ dst := some 49, op := Op.buildSlice 25 0 #[], type := 25, pos := "l7_value.go:309", after := #[], guard := none }, { dst := some 50, op := Op.fieldAddr 28 (Operand.tmp 4) 3, type := 0, pos := "l7_value.go:309", after := #[], guard := none }, { dst := some 51, op := Op.load 25 (Operand.tmp 50), type := 25, pos := "l7_value.go:309", after := #[{ on := 1, ground := Ground.data }], guard := none }, { dst := some 52, op := Op.move (Operand.tmp 10), type := 3, pos := "l7_value.go:309", after := #[], guard := none }, { dst := some 53, op := Op.slice 25 (Operand.tmp 51) none (some (Operand.tmp 52)) none, type := 25, pos := "l7_value.go:309", after := #[{ on := 2, ground := Ground.data }, { on := 3, ground := Ground.data }], guard := none }, { dst := some 54, op := Op.call { callee := Callee.builtin Builtin.append, args := #[Operand.tmp 49, Operand.tmp 53], argTypes := #[25, 25] }, type := 25, pos := "l7_value.go:309", after := #[{ on := 0, ground := Ground.data }, { on := 4, ground := Ground.data }], guard := none }, { dst := some 55, op := Op.load 28 (Operand.tmp 6), type := 28, pos := "l7_value.go:309", after := #[], guard := none }, { dst := some 56, op := Op.buildSlice 25 1 #[(0, Operand.tmp 55)], type := 25, pos := "l7_value.go:309", after := #[{ on := 6, ground := Ground.data }], guard := none }, { dst := some 57, op := Op.call { callee := Callee.builtin Builtin.append, args := #[Operand.tmp 54, Operand.tmp 56], argTypes := #[25, 25] }, type := 25, pos := "l7_value.go:309", after := #[{ on := 5, ground := Ground.data }, { on := 7, ground := Ground.data }, { on := 5, ground := Ground.chain }], guard := none }, { dst := some 58, op := Op.fieldAddr 28 (Operand.tmp 4) 3, type := 0, pos := "l7_value.go:309", after := #[], guard := none }, { dst := some 59, op := Op.load 25 (Operand.tmp 58), type := 25, pos := "l7_value.go:309", after := #[{ on := 9, ground := Ground.data }], guard := none }, { dst := some 60, op := Op.move (Operand.tmp 10), type := 3, pos := "l7_value.go:309", after := #[], guard := none }, { dst := some 61, op := Op.slice 25 (Operand.tmp 59) (some (Operand.tmp 60)) none none, type := 25, pos := "l7_value.go:309", after := #[{ on := 10, ground := Ground.data }, { on := 11, ground := Ground.data }], guard := none }, { dst := some 62, op := Op.call { callee := Callee.builtin Builtin.append, args := #[Operand.tmp 57, Operand.tmp 61], argTypes := #[25, 25] }, type := 25, pos := "l7_value.go:309", after := #[{ on := 8, ground := Ground.data }, { on := 12, ground := Ground.data }, { on := 8, ground := Ground.chain }], guard := none }, { dst := some 63, op := Op.fieldAddr 28 (Operand.tmp 11) 3, type := 0, pos := "l7_value.go:309", after := #[{ on := 0, ground := Ground.phase }, { on := 1, ground := Ground.phase }, { on := 2, ground := Ground.phase }, { on := 3, ground := Ground.phase }, { on := 4, ground := Ground.phase }, { on := 5, ground := Ground.phase }, { on := 6, ground := Ground.phase }, { on := 7, ground := Ground.phase }, { on := 8, ground := Ground.phase }, { on := 9, ground := Ground.phase }, { on := 10, ground := Ground.phase }, { on := 11, ground := Ground.phase }, { on := 12, ground := Ground.phase }, { on := 13, ground := Ground.phase }], guard := none }, { dst := none, op := Op.store 25 (Operand.tmp 63) (Operand.tmp 62), type := 0, pos := "l7_value.go:309", after := #[{ on := 14, ground := Ground.data }, { on := 13, ground := Ground.data }, { on := 13, ground := Ground.chain }, { on := 0, ground := Ground.phase }, { on := 1, ground := Ground.phase }, { on := 2, ground := Ground.phase }, { on := 3, ground := Ground.phase }, { on := 4, ground := Ground.phase }, { on := 5, ground := Ground.phase }, { on := 6, ground := Ground.phase }, { on := 7, ground := Ground.phase }, { on := 8, ground := Ground.phase }, { on := 9, ground := Ground.phase }, { on := 10, ground := Ground.phase }, { on := 11, ground := Ground.phase }, { on := 12, ground := Ground.phase }, { on := 13, ground := Ground.phase }], guard := none }] true) Q { tmps := (t0 :: t1 :: t2 :: t3 :: .pointer (some ⟨vb, 0, none⟩) :: t5 :: .pointer (some ⟨xb, 0, none⟩) :: t7 :: t8 :: t9 :: .int .i64 (k : Nat) :: .pointer (some ⟨ob, 0, none⟩) :: t12 :: t13 :: t14 :: t15 :: t16 :: t17 :: t18 :: t19 :: t20 :: t21 :: t22 :: t23 :: t24 :: t25 :: t26 :: t27 :: t28 :: t29 :: t30 :: t31 :: t32 :: t33 :: t34 :: t35 :: t36 :: t37 :: t38 :: t39 :: t40 :: t41 :: t42 :: t43 :: t44 :: t45 :: t46 :: t47 :: t48 :: t49 :: t50 :: t51 :: t52 :: t53 :: t54 :: t55 :: t56 :: t57 :: t58 :: t59 :: t60 :: t61 :: t62 :: t63 :: t64 :: t65 :: []).toArray, defers := [] } W := by
  obtain ⟨i0, hi, hz0, hz1, hz2⟩ := info_parts valInfo
  obtain ⟨hn1, hn2⟩ := hn
  unfold maxLen at hn2
  have hvl := World.block_lt_of_cell? W _ hv
  obtain ⟨ou, hou⟩ := hob
  have hol := World.block_lt_of_cell? W _ hou
  have hxl := hX.lt
  have HV : Hid (∀ w', Below W.heap.size W w' → w'.cell? ⟨vb, 4, none⟩ = some (.slice na n nc)) := fun w' h => (h.cell (p := ⟨vb, 4, none⟩) hvl).trans hv
  have HO : Hid (∀ w', Below W.heap.size W w' → w'.cell? ⟨ob, 4, none⟩ = some ou ∧ w'.frozen? ⟨ob, 4, none⟩ = false) := fun w' h => ⟨(h.cell (p := ⟨ob, 4, none⟩) hol).trans hou, (h.frozen (p := ⟨ob, 4, none⟩) hol).trans hof⟩
  have HX : Hid (∀ w', Below W.heap.size W w' → Cells6 w' xb 0 xh (.slice xa xn xc)) := fun w' h => hX.mono fun o u hu => (h.cell (p := ⟨xb, o, none⟩) hxl).trans hu
  have HT : Hid (∀ w', Below W.heap.size W w' → Src w' na k (L.take (k * 6))) := fun w' h => Lies.take0 (hL.grow h) hl (by omega) k hk
  have HD : Hid (∀ w', Below W.heap.size W w' → Src w' (if nc = k then na else na.map (fun x => x.add (k * 6))) (n - k) (L.drop (k * 6))) := fun w' h => by have := Lies.drop (hL.grow h) hl (by omega) k nc hn1; simpa using this
  have HL : Hid ((L.take (k * 6)).length = k * 6 ∧ (L.drop (k * 6)).length = (n - k) * 6) := ⟨by rw [List.length_take, hl]; exact Nat.min_eq_left (Nat.mul_le_mul_right _ hk), by rw [List.length_drop, hl, Nat.sub_mul]⟩
  have H1 : Hid ((∀ u ∈ L.take (k * 6), u.oneCell' = true) ∧ (∀ u ∈ L.drop (k * 6), u.oneCell' = true)) := ⟨fun u hu => h1 u (List.mem_of_mem_take hu), fun u hu => h1 u (List.mem_of_mem_drop hu)⟩
  clear hv hL hl h1 hou hof hX
  have HS : Hid (∀ w', Below W.heap.size W w' → (w'.cell? ⟨vb, 4, none⟩ = some (.slice na n nc) ∧ Cells6 w' xb 0 xh (.slice xa xn xc))) := fun w' h => ⟨HV.out w' h, HX.out w' h⟩
  have hB0 : Below W.heap.size W W.drew := (Below.refl _ W).drew
  have hS0 := HS.out _ hB0
  refine wp_region_held_drew (S := fun w' => w'.cell? ⟨vb, 4, none⟩ = some (.slice na n nc) ∧ Cells6 w' xb 0 xh (.slice xa xn xc)) (by kernel_rfl) hS0 (fun hHeld => ?_)
  generalize W.drew = Wd at *
  refine wpAnyH_take (i := 1) (v := .pointer (some ⟨vb, 4, none⟩)) rfl (by kernel_rfl) (by kernel_rfl) (by kernel_rfl) (fun _ _ _ h => hp _ _ _ _ _ h) (Or.inl ⟨by rfl, ?_⟩) (by assumption) ?_
  · intro w hSw
    (try dsimp only at hSw)
    go_simp
  (try simp only [Act.put, List.getElem_toArray, List.getElem_cons_zero, List.getElem_cons_succ, List.setIfInBounds_toArray, List.set_cons_zero, List.set_cons_succ])
  refine wpAnyH_take (i := 2) (v := .slice na n nc) rfl (by kernel_rfl) (by kernel_rfl) (by kernel_rfl) (fun _ _ _ h => hp _ _ _ _ _ h) (Or.inl ⟨by rfl, ?_⟩) (by assumption) ?_
  · intro w hSw
    (try dsimp only at hSw)
    (obtain ⟨hSv, hX0, hX1, hX2, hX3, hX4, hX5⟩ := hSw; go_simp)
  (try simp only [Act.put, List.getElem_toArray, List.getElem_cons_zero, List.getElem_cons_succ, List.setIfInBounds_toArray, List.set_cons_zero, List.set_cons_succ])
  refine wpAnyH_take (i := 3) (v := .int .i64 (k : Nat)) rfl (by kernel_rfl) (by kernel_rfl) (by kernel_rfl) (fun _ _ _ h => hp _ _ _ _ _ h) (Or.inl ⟨by rfl, ?_⟩) (by assumption) ?_
  · intro w hSw
    (try dsimp only at hSw)
    go_simp
  (try simp only [Act.put, List.getElem_toArray, List.getElem_cons_zero, List.getElem_cons_succ, List.setIfInBounds_toArray, List.set_cons_zero, List.set_cons_succ])
  refine wpAnyH_take (i := 4) (v := .slice na k nc) rfl (by kernel_rfl) (by kernel_rfl) (by kernel_rfl) (fun _ _ _ h => hp _ _ _ _ _ h) (Or.inl ⟨by rfl, ?_⟩) (by assumption) ?_
  · intro w hSw
    (try dsimp only at hSw)
    (go_simp <;> first | done | omega | (simp [sliced]; omega) | simp [sliced])
  (try simp only [Act.put, List.getElem_toArray, List.getElem_cons_zero, List.getElem_cons_succ, List.setIfInBounds_toArray, List.set_cons_zero, List.set_cons_succ])
  refine wpAnyH_take (i := 6) (v := valV xh xa xn xc) rfl (by kernel_rfl) (by kernel_rfl) (by kernel_rfl) (fun _ _ _ h => hp _ _ _ _ _ h) (Or.inl ⟨by rfl, ?_⟩) (by assumption) ?_
  · intro w hSw
    (try dsimp only at hSw)
    (obtain ⟨hSv, hX0, hX1, hX2, hX3, hX4, hX5⟩ := hSw; go_simp)
  (try simp only [Act.put, List.getElem_toArray, List.getElem_cons_zero, List.getElem_cons_succ, List.setIfInBounds_toArray, List.set_cons_zero, List.set_cons_succ])
  refine wpAnyH_take (i := 9) (v := .pointer (some ⟨vb, 4, none⟩)) rfl (by kernel_rfl) (by kernel_rfl) (by kernel_rfl) (fun _ _ _ h => hp _ _ _ _ _ h) (Or.inl ⟨by rfl, ?_⟩) (by assumption) ?_
  · intro w hSw
    (try dsimp only at hSw)
    go_simp
  (try simp only [Act.put, List.getElem_toArray, List.getElem_cons_zero, List.getElem_cons_succ, List.setIfInBounds_toArray, List.set_cons_zero, List.set_cons_succ])
  refine wpAnyH_take (i := 10) (v := .slice na n nc) rfl (by kernel_rfl) (by kernel_rfl) (by kernel_rfl) (fun _ _ _ h => hp _ _ _ _ _ h) (Or.inl ⟨by rfl, ?_⟩) (by assumption) ?_
  · intro w hSw
    (try dsimp only at hSw)
    (obtain ⟨hSv, hX0, hX1, hX2, hX3, hX4, hX5⟩ := hSw; go_simp)
  (try simp only [Act.put, List.getElem_toArray, List.getElem_cons_zero, List.getElem_cons_succ, List.setIfInBounds_toArray, List.set_cons_zero, List.set_cons_succ])
  refine wpAnyH_take (i := 11) (v := .int .i64 (k : Nat)) rfl (by kernel_rfl) (by kernel_rfl) (by kernel_rfl) (fun _ _ _ h => hp _ _ _ _ _ h) (Or.inl ⟨by rfl, ?_⟩) (by assumption) ?_
  · intro w hSw
    (try dsimp only at hSw)
    go_simp
  (try simp only [Act.put, List.getElem_toArray, List.getElem_cons_zero, List.getElem_cons_succ, List.setIfInBounds_toArray, List.set_cons_zero, List.set_cons_succ])
  refine wpAnyH_take (i := 12) (v := .slice (if nc = k then na else na.map (fun x => x.add (k * 6))) (n - k) (nc - k)) rfl (by kernel_rfl) (by kernel_rfl) (by kernel_rfl) (fun _ _ _ h => hp _ _ _ _ _ h) (Or.inl ⟨by rfl, ?_⟩) (by assumption) ?_
  · intro w hSw
    (try dsimp only at hSw)
    (go_simp <;> first | done | omega | (simp [sliced]; omega) | simp [sliced])
  (try simp only [Act.put, List.getElem_toArray, List.getElem_cons_zero, List.getElem_cons_succ, List.setIfInBounds_toArray, List.set_cons_zero, List.set_cons_succ])
  clear hS0 hHeld
  refine wpAnyH_ready (rs := [0, 7]) (by kernel_rfl) (by simp) ?_
  refine AllReadyH.cons rfl (fun K hK => ?_) (AllReadyH.cons rfl (fun K hK => ?_) AllReadyH.nil)
  · skip
    go_simp
    obtain ⟨g0, hg0⟩ : ∃ g, Wd.heap.size = g := ⟨_, rfl⟩
    have hz0 := hB0.size
    have hown := own_nothing Wd W.heap.size 6 28 hB0.size
    have hB1 := hB0.alloc hB0.size (.cells #[] 28)
    refine hK.out _ _ (HS.out _ hB1) (fun hHeld => ?_)
    clear hK K hHeld hB0
    have hB0 := hB1
    clear hB1
    rw [hg0] at hown ⊢
    obtain ⟨vo, hvo⟩ : ∃ vo, vo = Value.slice (some ⟨g0, 0, none⟩) 0 0 := ⟨_, rfl⟩
    rw [← hvo] at hown ⊢
    clear hvo
    generalize Wd.alloc (.cells #[] 28) = W85 at *
    clear hg0 hz0
    refine wpAnyH_ready (rs := [5, 7]) (by kernel_rfl) (by simp) ?_
    refine AllReadyH.cons rfl (fun K hK => ?_) (AllReadyH.cons rfl (fun K hK => ?_) AllReadyH.nil)
    · skip
      refine wp_append_lie W85 _ _ 25 rfl W.heap.size 28 i0 _ 6 88 Try.underlying25 hi hz0 hz1 hz2 rfl (by decide) vo 0 [] rfl hown na k nc (L.take (k * 6)) rfl HL.out.1 (HT.out _ hB0) H1.out.1 (by unfold maxLen; omega) (by omega) hB0.size ?_
      intro vo2 W90 hown2 hgr hbl
      have hB1 := below_grown hB0 hown hgr hB0.size
      refine hK.out _ _ (HS.out _ hB1) (fun hHeld => ?_)
      clear hK K hHeld hB0 hown hgr hbl
      have hB0 := hB1
      clear hB1
      have hown := hown2
      clear hown2
      (try simp only [Act.put, List.getElem_toArray, List.getElem_cons_zero, List.getElem_cons_succ, List.setIfInBounds_toArray, List.set_cons_zero, List.set_cons_succ])
      rw [List.nil_append, Nat.zero_add] at hown
      skip
      refine wpAnyH_ready (rs := [7]) (by kernel_rfl) (by simp) ?_
      refine AllReadyH.cons rfl (fun K hK => ?_) AllReadyH.nil
      go_simp
      obtain ⟨g7, hg7⟩ : ∃ g, W90.heap.size = g := ⟨_, rfl⟩
      have hel : Own0 (W90.alloc (.cells #[.int .i64 xh.k, .int .i64 xh.m, .int .i64 xh.e, .string xh.t, .slice xa xn xc, .slice xh.na xh.ns.length xh.nc] 28)) W.heap.size W90.heap.size (six xh xa xn xc) := Own0.new W90 W.heap.size [.int .i64 xh.k, .int .i64 xh.m, .int .i64 xh.e, .string xh.t, .slice xa xn xc, .slice xh.na xh.ns.length xh.nc] 28 hB0.size
      have hown2 := own_keep hown ((Below.refl _ W90).alloc (Nat.le_refl _) (.cells #[.int .i64 xh.k, .int .i64 xh.m, .int .i64 xh.e, .string xh.t, .slice xa xn xc, .slice xh.na xh.ns.length xh.nc] 28))
      have hne : ∀ r, Value.ownBlock vo2 = some r → r ≠ g7 := fun r hr => by have := (hown.lt r hr).2; omega
      clear hown
      have hown := hown2
      clear hown2
      have hB1 := hB0.alloc hB0.size (.cells #[.int .i64 xh.k, .int .i64 xh.m, .int .i64 xh.e, .string xh.t, .slice xa xn xc, .slice xh.na xh.ns.length xh.nc] 28)
      refine hK.out _ _ (HS.out _ hB1) (fun hHeld => ?_)
      clear hK K hHeld hB0
      have hB0 := hB1
      clear hB1
      rw [hg7] at hel ⊢
      generalize W90.alloc (.cells #[.int .i64 xh.k, .int .i64 xh.m, .int .i64 xh.e, .string xh.t, .slice xa xn xc, .slice xh.na xh.ns.length xh.nc] 28) = W106 at *
      clear hg7
      refine wpAnyH_ready (rs := [8]) (by kernel_rfl) (by simp) ?_
      refine AllReadyH.cons rfl (fun K hK => ?_) AllReadyH.nil
      refine wp_append_lie W106 _ _ 25 rfl W.heap.size 28 i0 _ 6 88 Try.underlying25 hi hz0 hz1 hz2 rfl (by decide) vo2 k _ rfl hown (some ⟨g7, 0, none⟩) 1 1 (six xh xa xn xc) rfl rfl (hel.src 1) (six_one) (by unfold maxLen; omega) (by omega) hB0.size ?_
      intro vo3 W120 hown2 hgr _
      have hB1 := below_grown hB0 hown hgr hB0.size
      refine hK.out _ _ (HS.out _ hB1) (fun hHeld => ?_)
      clear hK K hHeld hB0 hown hgr hel hne
      have hB0 := hB1
      clear hB1
      have hown := hown2
      clear hown2
      (try simp only [Act.put, List.getElem_toArray, List.getElem_cons_zero, List.getElem_cons_succ, List.setIfInBounds_toArray, List.set_cons_zero, List.set_cons_succ])
      refine wpAnyH_ready (rs := [13]) (by kernel_rfl) (by simp) ?_
      refine AllReadyH.cons rfl (fun K hK => ?_) AllReadyH.nil
      refine wp_append_lie W120 _ _ 25 rfl W.heap.size 28 i0 _ 6 88 Try.underlying25 hi hz0 hz1 hz2 rfl (by decide) vo3 (k + 1) _ rfl hown (if nc = k then na else na.map (fun x => x.add (k * 6))) (n - k) (nc - k) (L.drop (k * 6)) rfl HL.out.2 (HD.out _ hB0) H1.out.2 (by unfold maxLen; omega) (by omega) hB0.size ?_
      intro v' W120b hown2 hgr _
      have hB1 := below_grown hB0 hown hgr hB0.size
      refine hK.out _ _ (HS.out _ hB1) (fun hHeld => ?_)
      clear hK K hB0 hown hgr
      (try simp only [Act.put, List.getElem_toArray, List.getElem_cons_zero, List.getElem_cons_succ, List.setIfInBounds_toArray, List.set_cons_zero, List.set_cons_succ])
      refine wpAnyH_take (i := 14) (v := .pointer (some ⟨ob, 4, none⟩)) rfl (by kernel_rfl) (by kernel_rfl) (by kernel_rfl) (fun _ _ _ h => hp _ _ _ _ _ h) (Or.inl ⟨by rfl, ?_⟩) (by assumption) ?_
      · intro w hSw
        (try dsimp only at hSw)
        go_simp
      (try simp only [Act.put, List.getElem_toArray, List.getElem_cons_zero, List.getElem_cons_succ, List.setIfInBounds_toArray, List.set_cons_zero, List.set_cons_succ])
      obtain ⟨hoc, hofz⟩ := HO.out _ hB1
      rw [show k + 1 + (n - k) = n + 1 by omega, List.append_assoc] at hown2
      obtain ⟨g9, c9, rfl, _, _⟩ := hown2.form (by omega)
      refine wpAnyH_ready (rs := [15]) (by kernel_rfl) (by simp) ?_
      refine AllReadyH.cons rfl (fun K hK => ?_) AllReadyH.nil
      go_simp
      refine hK.out _ _ ?_ (fun hHeld => ?_)
      · exact ⟨(World.cell?_setCell_other _ _ _ _ (fun e => hnv (by simpa using congrArg Addr.block e.symm))).trans (HV.out _ hB1), (HX.out _ hB1).mono fun o u hu => (World.cell?_setCell_other _ _ _ _ (fun e => hnx (by simpa using congrArg Addr.block e.symm))).trans (hu)⟩
      refine wpAnyH_done (by kernel_rfl) ?_ _
      exact h _ _ _ _ _ _ _ _ _ _ _ _ _ _ _ _ hB1 hown2
    · skip
      go_simp
      obtain ⟨g7, hg7⟩ : ∃ g, W85.heap.size = g := ⟨_, rfl⟩
      have hz7 := hB0.size
      have hel : Own0 (W85.alloc (.cells #[.int .i64 xh.k, .int .i64 xh.m, .int .i64 xh.e, .string xh.t, .slice xa xn xc, .slice xh.na xh.ns.length xh.nc] 28)) W.heap.size W85.heap.size (six xh xa xn xc) := Own0.new W85 W.heap.size [.int .i64 xh.k, .int .i64 xh.m, .int .i64 xh.e, .string xh.t, .slice xa xn xc, .slice xh.na xh.ns.length xh.nc] 28 hB0.size
      have hown2 := own_keep hown ((Below.refl _ W85).alloc (Nat.le_refl _) (.cells #[.int .i64 xh.k, .int .i64 xh.m, .int .i64 xh.e, .string xh.t, .slice xa xn xc, .slice xh.na xh.ns.length xh.nc] 28))
      have hne : ∀ r, Value.ownBlock vo = some r → r ≠ g7 := fun r hr => by have := (hown.lt r hr).2; omega
      clear hown
      have hown := hown2
      clear hown2
      have hB1 := hB0.alloc hB0.size (.cells #[.int .i64 xh.k, .int .i64 xh.m, .int .i64 xh.e, .string xh.t, .slice xa xn xc, .slice xh.na xh.ns.length xh.nc] 28)
      refine hK.out _ _ (HS.out _ hB1) (fun hHeld => ?_)
      clear hK K hHeld hB0
      have hB0 := hB1
      clear hB1
      rw [hg7] at hel ⊢
      generalize W85.alloc (.cells #[.int .i64 xh.k, .int .i64 xh.m, .int .i64 xh.e, .string xh.t, .slice xa xn xc, .slice xh.na xh.ns.length xh.nc] 28) = W171 at *
      clear hg7 hz7
      refine wpAnyH_ready (rs := [5]) (by kernel_rfl) (by simp) ?_
      refine AllReadyH.cons rfl (fun K hK => ?_) AllReadyH.nil
      refine wp_append_lie W171 _ _ 25 rfl W.heap.size 28 i0 _ 6 88 Try.underlying25 hi hz0 hz1 hz2 rfl (by decide) vo 0 [] rfl hown na k nc (L.take (k * 6)) rfl HL.out.1 (HT.out _ hB0) H1.out.1 (by unfold maxLen; omega) (by omega) hB0.size ?_
      intro vo2 W175 hown2 hgr hbl
      have hB1 := below_grown hB0 hown hgr hB0.size
      have hel2 := hel.grown hgr (fun e => hne _ e rfl)
      have hne2 : ∀ r, Value.ownBlock vo2 = some r → r ≠ g7 := fun r hr => by
        rcases hbl with hbl | hbl
        · exact hne r (hbl ▸ hr)
        · rw [hbl] at hr; cases hr; have := hel.2.1; omega
      refine hK.out _ _ (HS.out _ hB1) (fun hHeld => ?_)
      clear hK K hHeld hB0 hown hgr hbl hne hel
      have hB0 := hB1
      clear hB1
      have hown := hown2
      clear hown2
      (try simp only [Act.put, List.getElem_toArray, List.getElem_cons_zero, List.getElem_cons_succ, List.setIfInBounds_toArray, List.set_cons_zero, List.set_cons_succ])
      have hel := hel2
      have hne := hne2
      clear hel2 hne2
      rw [List.nil_append, Nat.zero_add] at hown
      skip
      refine wpAnyH_ready (rs := [8]) (by kernel_rfl) (by simp) ?_
      refine AllReadyH.cons rfl (fun K hK => ?_) AllReadyH.nil
      refine wp_append_lie W175 _ _ 25 rfl W.heap.size 28 i0 _ 6 88 Try.underlying25 hi hz0 hz1 hz2 rfl (by decide) vo2 k _ rfl hown (some ⟨g7, 0, none⟩) 1 1 (six xh xa xn xc) rfl rfl (hel.src 1) (six_one) (by unfold maxLen; omega) (by omega) hB0.size ?_
      intro vo3 W195 hown2 hgr _
      have hB1 := below_grown hB0 hown hgr hB0.size
      refine hK.out _ _ (HS.out _ hB1) (fun hHeld => ?_)
      clear hK K hHeld hB0 hown hgr hel hne
      have hB0 := hB1
      clear hB1
      have hown := hown2
      clear hown2
      (try simp only [Act.put, List.getElem_toArray, List.getElem_cons_zero, List.getElem_cons_succ, List.setIfInBounds_toArray, List.set_cons_zero, List.set_cons_succ])
      refine wpAnyH_ready (rs := [13]) (by kernel_rfl) (by simp) ?_
      refine AllReadyH.cons rfl (fun K hK => ?_) AllReadyH.nil
      refine wp_append_lie W195 _ _ 25 rfl W.heap.size 28 i0 _ 6 88 Try.underlying25 hi hz0 hz1 hz2 rfl (by decide) vo3 (k + 1) _ rfl hown (if nc = k then na else na.map (fun x => x.add (k * 6))) (n - k) (nc - k) (L.drop (k * 6)) rfl HL.out.2 (HD.out _ hB0) H1.out.2 (by unfold maxLen; omega) (by omega) hB0.size ?_
      intro v' W195b hown2 hgr _
      have hB1 := below_grown hB0 hown hgr hB0.size
      refine hK.out _ _ (HS.out _ hB1) (fun hHeld => ?_)
      clear hK K hB0 hown hgr
      (try simp only [Act.put, List.getElem_toArray, List.getElem_cons_zero, List.getElem_cons_succ, List.setIfInBounds_toArray, List.set_cons_zero, List.set_cons_succ])
      refine wpAnyH_take (i := 14) (v := .pointer (some ⟨ob, 4, none⟩)) rfl (by kernel_rfl) (by kernel_rfl) (by kernel_rfl) (fun _ _ _ h => hp _ _ _ _ _ h) (Or.inl ⟨by rfl, ?_⟩) (by assumption) ?_
      · intro w hSw
        (try dsimp only at hSw)
        go_simp
      (try simp only [Act.put, List.getElem_toArray, List.getElem_cons_zero, List.getElem_cons_succ, List.setIfInBounds_toArray, List.set_cons_zero, List.set_cons_succ])
      obtain ⟨hoc, hofz⟩ := HO.out _ hB1
      rw [show k + 1 + (n - k) = n + 1 by omega, List.append_assoc] at hown2
      obtain ⟨g9, c9, rfl, _, _⟩ := hown2.form (by omega)
      refine wpAnyH_ready (rs := [15]) (by kernel_rfl) (by simp) ?_
      refine AllReadyH.cons rfl (fun K hK => ?_) AllReadyH.nil
      go_simp
      refine hK.out _ _ ?_ (fun hHeld => ?_)
      · exact ⟨(World.cell?_setCell_other _ _ _ _ (fun e => hnv (by simpa using congrArg Addr.block e.symm))).trans (HV.out _ hB1), (HX.out _ hB1).mono fun o u hu => (World.cell?_setCell_other _ _ _ _ (fun e => hnx (by simpa using congrArg Addr.block e.symm))).trans (hu)⟩
      refine wpAnyH_done (by kernel_rfl) ?_ _
      exact h _ _ _ _ _ _ _ _ _ _ _ _ _ _ _ _ hB1 hown2
  · skip
    go_simp
    obtain ⟨g7, hg7⟩ : ∃ g, Wd.heap.size = g := ⟨_, rfl⟩
    have hz7 := hB0.size
    have hel : Own0 (Wd.alloc (.cells #[.int .i64 xh.k, .int .i64 xh.m, .int .i64 xh.e, .string xh.t, .slice xa xn xc, .slice xh.na xh.ns.length xh.nc] 28)) W.heap.size Wd.heap.size (six xh xa xn xc) := Own0.new Wd W.heap.size [.int .i64 xh.k, .int .i64 xh.m, .int .i64 xh.e, .string xh.t, .slice xa xn xc, .slice xh.na xh.ns.length xh.nc] 28 hB0.size
    have hB1 := hB0.alloc hB0.size (.cells #[.int .i64 xh.k, .int .i64 xh.m, .int .i64 xh.e, .string xh.t, .slice xa xn xc, .slice xh.na xh.ns.length xh.nc] 28)
    refine hK.out _ _ (HS.out _ hB1) (fun hHeld => ?_)
    clear hK K hHeld hB0
    have hB0 := hB1
    clear hB1
    rw [hg7] at hel ⊢
    generalize Wd.alloc (.cells #[.int .i64 xh.k, .int .i64 xh.m, .int .i64 xh.e, .string xh.t, .slice xa xn xc, .slice xh.na xh.ns.length xh.nc] 28) = W241 at *
    clear hg7 hz7
    refine wpAnyH_ready (rs := [0]) (by kernel_rfl) (by simp) ?_
    refine AllReadyH.cons rfl (fun K hK => ?_) AllReadyH.nil
    go_simp
    obtain ⟨g0, hg0⟩ : ∃ g, W241.heap.size = g := ⟨_, rfl⟩
    have hz0 := hB0.size
    have hown := own_nothing W241 W.heap.size 6 28 hB0.size
    have hel2 := hel.below ((Below.refl _ W241).alloc (Nat.le_refl _) (.cells #[] 28))
    have hne : ∀ r, Value.ownBlock (.slice (some ⟨W241.heap.size, 0, none⟩) 0 0) = some r → r ≠ g7 := fun r hr => by simp [Value.ownBlock] at hr; have := hel.2.1; omega
    clear hel
    have hel := hel2
    clear hel2
    have hB1 := hB0.alloc hB0.size (.cells #[] 28)
    refine hK.out _ _ (HS.out _ hB1) (fun hHeld => ?_)
    clear hK K hHeld hB0
    have hB0 := hB1
    clear hB1
    rw [hg0] at hown hne ⊢
    obtain ⟨vo, hvo⟩ : ∃ vo, vo = Value.slice (some ⟨g0, 0, none⟩) 0 0 := ⟨_, rfl⟩
    rw [← hvo] at hown hne ⊢
    clear hvo
    generalize W241.alloc (.cells #[] 28) = W263 at *
    clear hg0 hz0
    refine wpAnyH_ready (rs := [5]) (by kernel_rfl) (by simp) ?_
    refine AllReadyH.cons rfl (fun K hK => ?_) AllReadyH.nil
    refine wp_append_lie W263 _ _ 25 rfl W.heap.size 28 i0 _ 6 88 Try.underlying25 hi hz0 hz1 hz2 rfl (by decide) vo 0 [] rfl hown na k nc (L.take (k * 6)) rfl HL.out.1 (HT.out _ hB0) H1.out.1 (by unfold maxLen; omega) (by omega) hB0.size ?_
    intro vo2 W267 hown2 hgr hbl
    have hB1 := below_grown hB0 hown hgr hB0.size
    have hel2 := hel.grown hgr (fun e => hne _ e rfl)
    have hne2 : ∀ r, Value.ownBlock vo2 = some r → r ≠ g7 := fun r hr => by
      rcases hbl with hbl | hbl
      · exact hne r (hbl ▸ hr)
      · rw [hbl] at hr; cases hr; have := hel.2.1; omega
    refine hK.out _ _ (HS.out _ hB1) (fun hHeld => ?_)
    clear hK K hHeld hB0 hown hgr hbl hne hel
    have hB0 := hB1
    clear hB1
    have hown := hown2
    clear hown2
    (try simp only [Act.put, List.getElem_toArray, List.getElem_cons_zero, List.getElem_cons_succ, List.setIfInBounds_toArray, List.set_cons_zero, List.set_cons_succ])
    have hel := hel2
    have hne := hne2
    clear hel2 hne2
    rw [List.nil_append, Nat.zero_add] at hown
    skip
    refine wpAnyH_ready (rs := [8]) (by kernel_rfl) (by simp) ?_
    refine AllReadyH.cons rfl (fun K hK => ?_) AllReadyH.nil
    refine wp_append_lie W267 _ _ 25 rfl W.heap.size 28 i0 _ 6 88 Try.underlying25 hi hz0 hz1 hz2 rfl (by decide) vo2 k _ rfl hown (some ⟨g7, 0, none⟩) 1 1 (six xh xa xn xc) rfl rfl (hel.src 1) (six_one) (by unfold maxLen; omega) (by omega) hB0.size ?_
    intro vo3 W287 hown2 hgr _
    have hB1 := below_grown hB0 hown hgr hB0.size
    refine hK.out _ _ (HS.out _ hB1) (fun hHeld => ?_)
    clear hK K hHeld hB0 hown hgr hel hne
    have hB0 := hB1
    clear hB1
    have hown := hown2
    clear hown2
    (try simp only [Act.put, List.getElem_toArray, List.getElem_cons_zero, List.getElem_cons_succ, List.setIfInBounds_toArray, List.set_cons_zero, List.set_cons_succ])
    refine wpAnyH_ready (rs := [13]) (by kernel_rfl) (by simp) ?_
    refine AllReadyH.cons rfl (fun K hK => ?_) AllReadyH.nil
    refine wp_append_lie W287 _ _ 25 rfl W.heap.size 28 i0 _ 6 88 Try.underlying25 hi hz0 hz1 hz2 rfl (by decide) vo3 (k + 1) _ rfl hown (if nc = k then na else na.map (fun x => x.add (k * 6))) (n - k) (nc - k) (L.drop (k * 6)) rfl HL.out.2 (HD.out _ hB0) H1.out.2 (by unfold maxLen; omega) (by omega) hB0.size ?_
    intro v' W287b hown2 hgr _
    have hB1 := below_grown hB0 hown hgr hB0.size
    refine hK.out _ _ (HS.out _ hB1) (fun hHeld => ?_)
    clear hK K hB0 hown hgr
    (try simp only [Act.put, List.getElem_toArray, List.getElem_cons_zero, List.getElem_cons_succ, List.setIfInBounds_toArray, List.set_cons_zero, List.set_cons_succ])
    refine wpAnyH_take (i := 14) (v := .pointer (some ⟨ob, 4, none⟩)) rfl (by kernel_rfl) (by kernel_rfl) (by kernel_rfl) (fun _ _ _ h => hp _ _ _ _ _ h) (Or.inl ⟨by rfl, ?_⟩) (by assumption) ?_
    · intro w hSw
      (try dsimp only at hSw)
      go_simp
    (try simp only [Act.put, List.getElem_toArray, List.getElem_cons_zero, List.getElem_cons_succ, List.setIfInBounds_toArray, List.set_cons_zero, List.set_cons_succ])
    obtain ⟨hoc, hofz⟩ := HO.out _ hB1
    rw [show k + 1 + (n - k) = n + 1 by omega, List.append_assoc] at hown2
    obtain ⟨g9, c9, rfl, _, _⟩ := hown2.form (by omega)
    refine wpAnyH_ready (rs := [15]) (by kernel_rfl) (by simp) ?_
    refine AllReadyH.cons rfl (fun K hK => ?_) AllReadyH.nil
    go_simp
    refine hK.out _ _ ?_ (fun hHeld => ?_)
    · exact ⟨(World.cell?_setCell_other _ _ _ _ (fun e => hnv (by simpa using congrArg Addr.block e.symm))).trans (HV.out _ hB1), (HX.out _ hB1).mono fun o u hu => (World.cell?_setCell_other _ _ _ _ (fun e => hnx (by simpa using congrArg Addr.block e.symm))).trans (hu)⟩
    refine wpAnyH_done (by kernel_rfl) ?_ _
    exact h _ _ _ _ _ _ _ _ _ _ _ _ _ _ _ _ hB1 hown2
end Go.Proofs.Ytfgchdnpbbgmjaa
/- Values: a value put into an object, by the specification: l2Has, l7Into. -/
namespace Go.Proofs.Ytfgchdnpbbgmjaa
open Go.RowKit
attribute [local go_sem] cell_alloc_is frozen_alloc_is
/-- a text is among others -/
def hasT (s : ByteArray) (ss : List ByteArray) : Bool := ss.any (fun x => x.toList == s.toList)
set_option maxHeartbeats 400000 in
theorem l2Has_sin (ss : List ByteArray) (a : Option Addr) (c : Nat) (s : ByteArray) (w : World) (hs : SIn w ss a) (hn : ss.length ≤ 1100000) :
    Calls Try.prog 78 #[.slice a ss.length c, .string s] w fun e w' => e = .returned (.bool (hasT s ss)) ∧ w' = w := by
  go_enter Try.func78, Try.ntmps78
  go_wp2_with fail
  go_loop [5] (fun i => ∃ k : Nat, k ≤ ss.length ∧ i = .int .i64 k ∧ hasT s ss = hasT s (ss.drop k)) (fun i => ss.length - (intOf i).toNat)
  case atStart => exact ⟨0, Nat.zero_le _, rfl, by simp⟩
  case round =>
    obtain ⟨k, hk, rfl, hr⟩ := hrel
    have HR : Hid (hasT s ss = hasT s (ss.drop k)) := hr
    clear hr
    by_cases hlt : k < ss.length
    · rcases hs with rfl | ⟨b, o, rfl, hs⟩
      · exact absurd hlt (Nat.not_lt_zero _)
      obtain ⟨hck, _⟩ := hs.at (List.getElem?_eq_getElem hlt)
      have HS : Hid (ss.drop k = ss[k] :: ss.drop (k + 1)) := List.drop_eq_getElem_cons hlt
      have hlt' : (k : Int) < (ss.length : Int) := by omega
      clear hs
      generalize ss[k] = x at *
      cases hq : (x.toList == s.toList)
      · go_wp2_with fail
        go_round
        case rel =>
          refine ⟨k + 1, by omega, by go_num, ?_⟩
          rw [HR.out, HS.out]
          show ((x.toList == s.toList) || hasT s (ss.drop (k + 1))) = _
          rw [hq, Bool.false_or]
        case measure => simp [intOf]; omega
      · go_wp2_with fail
        go_ret
        refine ⟨congrArg (fun b => Ending.returned (.bool b)) ?_, rfl⟩
        rw [HR.out, HS.out]
        show true = ((x.toList == s.toList) || hasT s (ss.drop (k + 1)))
        rw [hq, Bool.true_or]
    · have he : k = ss.length := by omega
      subst he
      go_wp2_with fail
      go_ret
      refine ⟨congrArg (fun b => Ending.returned (.bool b)) ?_, rfl⟩
      rw [HR.out, List.drop_length]; rfl
theorem plc_at {s : ByteArray} : ∀ {ss : List ByteArray} {k : Nat}, plc s ss = k + plc s (ss.drop k) → ∀ x, ss[k]? = some x → (Op.bytesLess x.toList s.toList = true → plc s ss = k + 1 + plc s (ss.drop (k + 1))) ∧ (Op.bytesLess x.toList s.toList = false → plc s ss = k) := by
  intro ss k h x hx
  obtain ⟨hk, he⟩ := List.getElem?_eq_some_iff.1 hx
  rw [List.drop_eq_getElem_cons hk, he] at h
  have e : plc s (x :: ss.drop (k + 1)) = if Op.bytesLess x.toList s.toList then plc s (ss.drop (k + 1)) + 1 else 0 := rfl
  rw [e] at h
  constructor
  · intro hb
    rw [if_pos hb] at h
    omega
  · intro hb
    rw [if_neg (by rw [hb]; exact Bool.false_ne_true)] at h
    omega
theorem Cells6.setOther {w : World} {b o : Nat} {h : Hd} {v : Value} (x : Cells6 w b o h v) {j : Nat} (hj : ¬ b = j) (q : Nat) (u : Value) : Cells6 (w.setCell ⟨j, q, none⟩ u) b o h v :=
  x.mono fun o' u' hu => (World.cell?_setCell_other _ _ _ _ (fun e => hj (by simpa using congrArg Addr.block e.symm))).trans hu
theorem own_set {W : World} {base : Nat} {e : TypeId} {size : Nat} {v : Value} {n : Nat} {xs : List Value} (h : W.ownsRow base e size v n xs) {j o : Nat} (hj : ∀ g, v.ownBlock = some g → ¬ g = j) (u : Value) : (W.setCell ⟨j, o, none⟩ u).ownsRow base e size v n xs := by
  obtain ⟨h1, h2⟩ := h
  refine ⟨h1, ?_⟩
  rcases h2 with h2 | ⟨g, cap, cur, rfl, e2, e3, e4, e5, e6, e7⟩
  · exact .inl h2
  · exact .inr ⟨g, cap, cur, rfl, e2, by rw [heap_setCell_other _ _ _ _ (hj g rfl)]; exact e3, e4, e5, e6, e7⟩
theorem own_put6 {W : World} {base : Nat} {e : TypeId} {size : Nat} {v : Value} {n : Nat} {xs : List Value} (h : W.ownsRow base e size v n xs) {j o : Nat} (hj : ∀ g, v.ownBlock = some g → ¬ g = j) {v0 v1 v2 v3 v4 v5 : Value} : (put6 W j o v0 v1 v2 v3 v4 v5).ownsRow base e size v n xs :=
  own_set (own_set (own_set (own_set (own_set (own_set h hj _) hj _) hj _) hj _) hj _) hj _
theorem own_mono {W : World} {base base' : Nat} {e : TypeId} {size : Nat} {v : Value} {n : Nat} {xs : List Value} (h : W.ownsRow base e size v n xs) (hb : base' ≤ base) : W.ownsRow base' e size v n xs := by
  obtain ⟨h1, h2⟩ := h
  refine ⟨h1, ?_⟩
  rcases h2 with h2 | ⟨g, cap, cur, e1, e2, e3⟩
  · exact .inl h2
  · exact .inr ⟨g, cap, cur, e1, Nat.le_trans hb e2, e3⟩
/-- an object's head with other names -/
def hdObj (na : Option Addr) (nc : Nat) (ns : List ByteArray) : Hd := ⟨6, 0, 0, ⟨#[]⟩, na, nc, ns⟩
/-- a value but for where it lies, put into an object -/
def IntoC (h : Hd) (a : Option Addr) (c : Nat) (F : Vo) (s : ByteArray) (X : Vo) (ok : Bool) (w w' : World) (r : Ending) : Prop :=
  (hasT s h.ns = true ∧ r = .returned (.tuple #[valV h a F.len c, .bool false])) ∨
  (hasT s h.ns = false ∧ ∃ na nc a' c', r = .returned (.tuple #[valV (hdObj na nc (insN s h.ns)) a' (F.len + 1) c', .bool ok]) ∧
    w'.ownsRow w.heap.size 9 1 (.slice na (insN s h.ns).length nc) (insN s h.ns).length (texts (insN s h.ns)) ∧
    w'.ownsRow w.heap.size 28 6 (.slice a' (F.len + 1) c') (F.len + 1) (insV X F (plc s h.ns)).cells)
set_option maxHeartbeats 2000000 in
set_option maxRecDepth 100000 in
theorem l7Into_any (h : Hd) (a : Option Addr) (c : Nat) (F : Vo) (s : ByteArray) (hx : Hd) (ax : Option Addr) (cx : Nat) (X : Vo) (ok : Bool) (w : World) (hF : F.In w a) (hc : F.len ≤ c ∧ c ≤ maxLen) (hh : h.In w) (hn : F.len = h.ns.length) (hN : h.ns.length ≤ 1000000) :
    Calls Try.prog 49 #[valV h a F.len c, .string s, valV hx ax X.len cx, .bool ok] w fun r w' => IntoC h a c F s (oneV hx ax cx X) ok w w' r ∧ Below w.heap.size w w' := by
  obtain ⟨W0, hW0⟩ : ∃ W0, W0 = ((w.alloc (.cells #[.int .i64 h.k, .int .i64 h.m, .int .i64 h.e, .string h.t, .slice a F.len c, .slice h.na h.ns.length h.nc] 28)).alloc (.cells #[.int .i64 hx.k, .int .i64 hx.m, .int .i64 hx.e, .string hx.t, .slice ax X.len cx, .slice hx.na hx.ns.length hx.nc] 28)).alloc (.cells #[.int .i64 0, .int .i64 0, .int .i64 0, .string ⟨#[]⟩, .slice none 0 0, .slice none 0 0] 28) := ⟨_, rfl⟩
  have hB0 : Below w.heap.size w W0 := by subst hW0; exact (by (repeat' (first | assumption | exact Below.refl _ _ | refine Below.alloc ?_ ?_ _ | refine Below.setCell ?_ ?_ _ | refine Below.drew ?_ | refine below_drewN ?_ _)) <;> (first | omega | (simp <;> omega)))
  have hsz : W0.heap.size = w.heap.size + 1 + 1 + 1 := by subst hW0; simp
  have A0 : Row W0 w.heap.size [.int .i64 h.k, .int .i64 h.m, .int .i64 h.e, .string h.t, .slice a F.len c, .slice h.na h.ns.length h.nc] := by
    subst hW0
    exact ((Row.new w _ _).below ((Below.refl _ _).alloc (Nat.le_refl _) _) (by simp)).below ((Below.refl _ _).alloc (Nat.le_refl _) _) (by simp; omega)
  have B0 : Row W0 (w.heap.size + 1) [.int .i64 hx.k, .int .i64 hx.m, .int .i64 hx.e, .string hx.t, .slice ax X.len cx, .slice hx.na hx.ns.length hx.nc] := by
    subst hW0
    have := Row.new (w.alloc (.cells #[.int .i64 h.k, .int .i64 h.m, .int .i64 h.e, .string h.t, .slice a F.len c, .slice h.na h.ns.length h.nc] 28)) [.int .i64 hx.k, .int .i64 hx.m, .int .i64 hx.e, .string hx.t, .slice ax X.len cx, .slice hx.na hx.ns.length hx.nc] 28
    rw [World.size_alloc] at this
    exact this.below ((Below.refl _ _).alloc (Nat.le_refl _) _) (by simp)
  have C0 : Row W0 (w.heap.size + 1 + 1) [.int .i64 0, .int .i64 0, .int .i64 0, .string ⟨#[]⟩, .slice none 0 0, .slice none 0 0] := by
    subst hW0
    have := Row.new ((w.alloc (.cells #[.int .i64 h.k, .int .i64 h.m, .int .i64 h.e, .string h.t, .slice a F.len c, .slice h.na h.ns.length h.nc] 28)).alloc (.cells #[.int .i64 hx.k, .int .i64 hx.m, .int .i64 hx.e, .string hx.t, .slice ax X.len cx, .slice hx.na hx.ns.length hx.nc] 28)) [.int .i64 0, .int .i64 0, .int .i64 0, .string ⟨#[]⟩, .slice none 0 0, .slice none 0 0] 28
    rw [World.size_alloc, World.size_alloc] at this
    exact this
  have HSZ : Hid (W0.heap.size = w.heap.size + 1 + 1 + 1) := hsz
  have HX0 : Hid (Cells6 W0 (w.heap.size + 1) 0 hx (.slice ax X.len cx)) := ⟨(B0 0 _ rfl).1, (B0 1 _ rfl).1, (B0 2 _ rfl).1, (B0 3 _ rfl).1, (B0 4 _ rfl).1, (B0 5 _ rfl).1⟩
  have HA0 : Hid (Row W0 w.heap.size [.int .i64 h.k, .int .i64 h.m, .int .i64 h.e, .string h.t, .slice a F.len c, .slice h.na h.ns.length h.nc] ∧ Row W0 (w.heap.size + 1 + 1) [.int .i64 0, .int .i64 0, .int .i64 0, .string ⟨#[]⟩, .slice none 0 0, .slice none 0 0]) := ⟨A0, C0⟩
  have a0 := (A0 0 _ rfl).1
  have a1 := (A0 1 _ rfl).1
  have a2 := (A0 2 _ rfl).1
  have a3 := (A0 3 _ rfl).1
  have a4 := (A0 4 _ rfl).1
  have a5 := (A0 5 _ rfl).1
  have hS0 := hh.1.grow hB0
  have HS : Hid (SIn w h.ns h.na) := hh.1
  obtain ⟨hnc, hncm⟩ := hh.2.1
  have HN : Hid (F.len = h.ns.length) := hn
  clear hsz A0 B0 hh hn
  go_enter Try.func49, Try.ntmps49
  go_wp2_with fail
  rw [← hW0]
  clear hW0
  refine (l2Has_sin h.ns h.na h.nc s W0 hS0 (by omega)).mono ?_
  rintro r w1 ⟨rfl, hw1⟩
  rw [hw1]
  clear hw1 w1
  have hd2 : hasT s h.ns = true ∨ hasT s h.ns = false := by cases hasT s h.ns <;> simp
  rcases hd2 with hd | hd
  · obtain ⟨c0, f0⟩ := C0 0 _ rfl
    obtain ⟨c1, f1⟩ := C0 1 _ rfl
    obtain ⟨c2, f2⟩ := C0 2 _ rfl
    obtain ⟨c3, f3⟩ := C0 3 _ rfl
    obtain ⟨c4, f4⟩ := C0 4 _ rfl
    obtain ⟨c5, f5⟩ := C0 5 _ rfl
    rw [hd]
    clear HX0 HA0 HS hnc hncm hS0 HN hF
    go_wp2_with fail
    have hcs : ∀ q, q < 6 → ∃ u, W0.cell? ⟨w.heap.size + 1 + 1, 0 + q, none⟩ = some u := fun q hq => by
      rw [Nat.zero_add]
      have : q = 0 ∨ q = 1 ∨ q = 2 ∨ q = 3 ∨ q = 4 ∨ q = 5 := by omega
      rcases this with rfl | rfl | rfl | rfl | rfl | rfl
      · exact ⟨_, c0⟩
      · exact ⟨_, c1⟩
      · exact ⟨_, c2⟩
      · exact ⟨_, c3⟩
      · exact ⟨_, c4⟩
      · exact ⟨_, c5⟩
    have HB : Hid (Below w.heap.size w (put6 W0 (w.heap.size + 1 + 1) 0 (.int .i64 h.k) (.int .i64 h.m) (.int .i64 h.e) (.string h.t) (.slice a F.len c) (.slice h.na h.ns.length h.nc))) := put6_below hB0 (by omega) _ _ _ _ _ _
    have e0 := put6_cell (v0 := .int .i64 h.k) (v1 := .int .i64 h.m) (v2 := .int .i64 h.e) (v3 := .string h.t) (v4 := .slice a F.len c) (v5 := .slice h.na h.ns.length h.nc) hcs (i := 0) rfl
    have e1 := put6_cell (v0 := .int .i64 h.k) (v1 := .int .i64 h.m) (v2 := .int .i64 h.e) (v3 := .string h.t) (v4 := .slice a F.len c) (v5 := .slice h.na h.ns.length h.nc) hcs (i := 1) rfl
    have e2 := put6_cell (v0 := .int .i64 h.k) (v1 := .int .i64 h.m) (v2 := .int .i64 h.e) (v3 := .string h.t) (v4 := .slice a F.len c) (v5 := .slice h.na h.ns.length h.nc) hcs (i := 2) rfl
    have e3 := put6_cell (v0 := .int .i64 h.k) (v1 := .int .i64 h.m) (v2 := .int .i64 h.e) (v3 := .string h.t) (v4 := .slice a F.len c) (v5 := .slice h.na h.ns.length h.nc) hcs (i := 3) rfl
    have e4 := put6_cell (v0 := .int .i64 h.k) (v1 := .int .i64 h.m) (v2 := .int .i64 h.e) (v3 := .string h.t) (v4 := .slice a F.len c) (v5 := .slice h.na h.ns.length h.nc) hcs (i := 4) rfl
    have e5 := put6_cell (v0 := .int .i64 h.k) (v1 := .int .i64 h.m) (v2 := .int .i64 h.e) (v3 := .string h.t) (v4 := .slice a F.len c) (v5 := .slice h.na h.ns.length h.nc) hcs (i := 5) rfl
    show bodyPost Try.prog Try.f49 _ Exit.ret _ (put6 W0 (w.heap.size + 1 + 1) 0 (.int .i64 h.k) (.int .i64 h.m) (.int .i64 h.e) (.string h.t) (.slice a F.len c) (.slice h.na h.ns.length h.nc))
    generalize put6 W0 (w.heap.size + 1 + 1) 0 (.int .i64 h.k) (.int .i64 h.m) (.int .i64 h.e) (.string h.t) (.slice a F.len c) (.slice h.na h.ns.length h.nc) = W6 at *
    simp only [Nat.zero_add] at e0 e1 e2 e3 e4 e5
    refine bodyPost_ret (v := .tuple #[valV h a F.len c, .bool false]) (by simp [results, Try.results49, go_sem, e0, e1, e2, e3, e4, e5]) rfl ⟨.inl ⟨hd, rfl⟩, HB.out⟩
  · rw [hd]
    have HD : Hid (hasT s h.ns = false) := hd
    clear hd
    go_wp2_with fail
    go_loop [10] (fun i => ∃ k : Nat, k ≤ h.ns.length ∧ i = .int .i64 k ∧ plc s h.ns = k + plc s (h.ns.drop k)) (fun i => h.ns.length - (intOf i).toNat)
    case atStart => exact ⟨0, Nat.zero_le _, rfl, by simp⟩
    case round =>
      obtain ⟨k, hk, rfl, hr⟩ := hrel
      have HR : Hid (plc s h.ns = k + plc s (h.ns.drop k)) := hr
      clear hr
      have hst : (∃ b o x, h.na = some ⟨b, o, none⟩ ∧ k < h.ns.length ∧ h.ns[k]? = some x ∧ W0.cell? ⟨b, o + k, none⟩ = some (.string x)) ∨ k = h.ns.length := by
        by_cases hlt : k < h.ns.length
        · rcases hS0 with h0 | ⟨b, o, e, hs⟩
          · rw [h0] at hlt; exact absurd hlt (Nat.not_lt_zero _)
          · exact .inl ⟨b, o, h.ns[k], e, hlt, List.getElem?_eq_getElem hlt, (hs.at (List.getElem?_eq_getElem hlt)).1⟩
        · exact .inr (by omega)
      have hend : (∃ b o x, h.na = some ⟨b, o, none⟩ ∧ k < h.ns.length ∧ h.ns[k]? = some x ∧ W0.cell? ⟨b, o + k, none⟩ = some (.string x) ∧ Op.bytesLess x.toList s.toList = true) ∨
          (∃ b o x, h.na = some ⟨b, o, none⟩ ∧ (k : Int) < (h.ns.length : Int) ∧ W0.cell? ⟨b, o + k, none⟩ = some (.string x) ∧ Op.bytesLess x.toList s.toList = false ∧ plc s h.ns = k) ∨ (¬ (k : Int) < (h.ns.length : Int) ∧ plc s h.ns = k) := by
        rcases hst with ⟨b, o, x, e1, e2, e3, e4⟩ | e
        · cases hq : Op.bytesLess x.toList s.toList
          · exact .inr (.inl ⟨b, o, x, e1, by omega, e4, hq, (plc_at HR.out x e3).2 hq⟩)
          · exact .inl ⟨b, o, x, e1, e2, e3, e4, hq⟩
        · refine .inr (.inr ⟨by omega, ?_⟩)
          rw [HR.out, e, List.drop_length]; rfl
      clear hst
      rcases hend with ⟨b, o, x, e1, e2, e3, e4, hq⟩ | hend
      · have e2' : (k : Int) < (h.ns.length : Int) := by omega
        have HP : Hid (plc s h.ns = k + 1 + plc s (h.ns.drop (k + 1))) := (plc_at HR.out x e3).1 hq
        rw [e1] at a5
        clear e3
        go_wp2_with fail
        go_round
        case rel => exact ⟨k + 1, by omega, by go_num, HP.out⟩
        case measure => simp [intOf]; omega
      · clear HR
        rcases hend with ⟨b, o, x, e1, e2, e4, hq, hp⟩ | ⟨e2, hp⟩
        all_goals
          have HP : Hid (plc s h.ns = k) := hp
          (try rw [e1] at a5)
          clear hp
          go_wp2_with fail
          clear e2 a0 a1 a2 a3 a4 a5
          (try clear e4 hq e1)
          clear hS0
          obtain ⟨A0, C0'⟩ := HA0.out
          obtain ⟨ob, hobe⟩ : ∃ ob, W0.heap.size = ob := ⟨_, rfl⟩
          have HOB : Hid (ob = w.heap.size + 1 + 1 + 1) := by unfold Hid; rw [← hobe]; exact HSZ.out
          have hle0 : w.heap.size ≤ W0.heap.size := by have := HSZ.out; omega
          have D1 : Row (W0.alloc (.cells #[.int .i64 6, .int .i64 0, .int .i64 0, .string ⟨#[]⟩, .slice none 0 0, .slice none 0 0] 28)) ob [.int .i64 6, .int .i64 0, .int .i64 0, .string ⟨#[]⟩, .slice none 0 0, .slice none 0 0] := by rw [← hobe]; exact Row.new W0 _ _
          have hbW : Below W0.heap.size W0 (W0.alloc (.cells #[.int .i64 6, .int .i64 0, .int .i64 0, .string ⟨#[]⟩, .slice none 0 0, .slice none 0 0] 28)) := (Below.refl _ _).alloc (Nat.le_refl _) _
          have A1 := A0.below hbW A0.lt
          have C1 := C0'.below hbW C0'.lt
          have HX1 : Hid (Cells6 (W0.alloc (.cells #[.int .i64 6, .int .i64 0, .int .i64 0, .string ⟨#[]⟩, .slice none 0 0, .slice none 0 0] 28)) (w.heap.size + 1) 0 hx (.slice ax X.len cx)) := HX0.out.grow hbW
          have hB1 := hB0.trans (hbW.mono hle0)
          have hS1 : SIn (W0.alloc (.cells #[.int .i64 6, .int .i64 0, .int .i64 0, .string ⟨#[]⟩, .slice none 0 0, .slice none 0 0] 28)) h.ns h.na := HS.out.grow hB1
          have hz1 : (W0.alloc (.cells #[.int .i64 6, .int .i64 0, .int .i64 0, .string ⟨#[]⟩, .slice none 0 0, .slice none 0 0] 28)).heap.size = ob + 1 := by rw [← hobe]; simp
          rw [hobe]
          have HF0 : Hid (F.In w a) := hF
          clear hbW A0 C0' HA0 HX0 hB0 C0 hle0 hF HS
          have HZ1 : Hid ((W0.alloc (.cells #[.int .i64 6, .int .i64 0, .int .i64 0, .string ⟨#[]⟩, .slice none 0 0, .slice none 0 0] 28)).heap.size = ob + 1) := hz1
          clear hz1 hobe HSZ
          generalize W0.alloc (.cells #[.int .i64 6, .int .i64 0, .int .i64 0, .string ⟨#[]⟩, .slice none 0 0, .slice none 0 0] 28) = W1 at *
          have hob : w.heap.size + 1 + 1 < ob := by have := HOB.out; omega
          refine u7 (L := texts h.ns) (na := h.na) (nc := h.nc) (n := h.ns.length) (k := k) (vb := w.heap.size) (ob := ob) (by omega) (A1 5 _ rfl).1 hS1.lies.1 (by rw [texts_length, Nat.mul_one]) texts_one ⟨hnc, hncm⟩ hk (by omega) ⟨_, (D1 5 _ rfl).1⟩ (D1 5 _ rfl).2 (fun _ d _ _ _ h => by cases d <;> exact h) ?_
          intro W2 vv v34 v35 v36 v37 v38 v39 v40 v41 v42 v43 v44 v45 v46 v48 hB2 hown2
          obtain ⟨g2, c2, rfl, hg2, _⟩ := hown2.form (by omega)
          have lA := A1.lt
          have lC := C1.lt
          have lD := D1.lt
          have lX := HX1.out.lt
          have A3 := (A1.below hB2 lA).setOther (j := ob) (by omega) 5 (.slice (some ⟨g2, 0, none⟩) (h.ns.length + 1) c2)
          have C3 := (C1.below hB2 lC).setOther (j := ob) (by omega) 5 (.slice (some ⟨g2, 0, none⟩) (h.ns.length + 1) c2)
          have D3 := (D1.below hB2 lD).set (i := 5) (by simp) (.slice (some ⟨g2, 0, none⟩) (h.ns.length + 1) c2)
          have HX3 : Hid (Cells6 (W2.setCell ⟨ob, 5, none⟩ (.slice (some ⟨g2, 0, none⟩) (h.ns.length + 1) c2)) (w.heap.size + 1) 0 hx (.slice ax X.len cx)) := (HX1.out.grow hB2).setOther (by omega) _ _
          have hz2 := hB2.size
          have hown3 := ownsRow_setCell_below (a := ⟨ob, 5, none⟩) hown2 lD (.slice (some ⟨g2, 0, none⟩) (h.ns.length + 1) c2)
          have hB3 : Below w.heap.size w (W2.setCell ⟨ob, 5, none⟩ (.slice (some ⟨g2, 0, none⟩) (h.ns.length + 1) c2)) := (hB1.trans (hB2.mono hB1.size)).setCell (p := ⟨ob, 5, none⟩) (by show _ ≤ ob; omega) _
          have hF3' : Lies (W2.setCell ⟨ob, 5, none⟩ (.slice (some ⟨g2, 0, none⟩) (h.ns.length + 1) c2)) a F.cells := HF0.out.lies.grow hB3
          have hz3 : W1.heap.size ≤ (W2.setCell ⟨ob, 5, none⟩ (.slice (some ⟨g2, 0, none⟩) (h.ns.length + 1) c2)).heap.size := by simpa [World.setCell] using hz2
          clear A1 C1 HX1 D1 hown2 hB2 hB1 hS1
          generalize W2.setCell ⟨ob, 5, none⟩ (.slice (some ⟨g2, 0, none⟩) (h.ns.length + 1) c2) = W3 at *
          go_wp2_with fail
          have hkF : k ≤ F.len := by rw [HN.out]; exact hk
          refine u8 (L := F.cells) (na := a) (nc := c) (n := F.len) (k := k) (vb := w.heap.size) (ob := ob) (xb := w.heap.size + 1) (xh := hx) (xa := ax) (xn := X.len) (xc := cx) (by omega) (A3 4 _ rfl).1 hF3' F.cells_length F.cells_one hc hkF (by rw [HN.out]; omega) ⟨_, (D3 4 _ rfl).1⟩ (D3 4 _ rfl).2 (by omega) HX3.out (fun _ d _ _ _ h => by cases d <;> exact h) ?_
          intro W4 vv v49 v50 v51 v52 v53 v54 v55 v56 v57 v58 v59 v60 v61 v63 hB4 hown4
          obtain ⟨g4, c4, rfl, hg4, _⟩ := hown4.form (by omega)
          have lA3 := A3.lt
          have lC3 := C3.lt
          have lD3 := D3.lt
          have C5 := (C3.below hB4 lC3).setOther (j := ob) (by omega) 4 (.slice (some ⟨g4, 0, none⟩) (F.len + 1) c4)
          have D5 := (D3.below hB4 lD3).set (i := 4) (by simp) (.slice (some ⟨g4, 0, none⟩) (F.len + 1) c4)
          have hown5 := own_mono (base' := w.heap.size) (ownsRow_setCell_below (a := ⟨ob, 4, none⟩) hown4 lD3 (.slice (some ⟨g4, 0, none⟩) (F.len + 1) c4)) (by omega)
          have hown5' : (W4.setCell ⟨ob, 4, none⟩ (.slice (some ⟨g4, 0, none⟩) (F.len + 1) c4)).ownsRow w.heap.size 9 1 (.slice (some ⟨g2, 0, none⟩) (h.ns.length + 1) c2) (h.ns.length + 1) ((texts h.ns).take (k * 1) ++ ([Value.string s] ++ (texts h.ns).drop (k * 1))) :=
            own_mono (base' := w.heap.size) (ownsRow_setCell_below (a := ⟨ob, 4, none⟩) (own_keep hown3 hB4) lD (.slice (some ⟨g4, 0, none⟩) (F.len + 1) c4)) (by omega)
          have hB5 : Below w.heap.size w (W4.setCell ⟨ob, 4, none⟩ (.slice (some ⟨g4, 0, none⟩) (F.len + 1) c4)) := (hB3.trans (hB4.mono hB3.size)).setCell (p := ⟨ob, 4, none⟩) (by show _ ≤ ob; omega) _
          clear A3 C3 D3 HX3 hown4 hown3 hB4 hB3 hF3'
          generalize W4.setCell ⟨ob, 4, none⟩ (.slice (some ⟨g4, 0, none⟩) (F.len + 1) c4) = W5 at *
          obtain ⟨c0, f0⟩ := C5 0 _ rfl
          obtain ⟨c1, f1⟩ := C5 1 _ rfl
          obtain ⟨c2', f2⟩ := C5 2 _ rfl
          obtain ⟨c3, f3⟩ := C5 3 _ rfl
          obtain ⟨c4', f4⟩ := C5 4 _ rfl
          obtain ⟨c5, f5⟩ := C5 5 _ rfl
          have d0 := (D5 0 _ rfl).1
          have d1 := (D5 1 _ rfl).1
          have d2 := (D5 2 _ rfl).1
          have d3 := (D5 3 _ rfl).1
          have d4 := (D5 4 _ rfl).1
          have d5 := (D5 5 _ rfl).1
          have HOW : Hid (W5.ownsRow w.heap.size 28 6 (.slice (some ⟨g4, 0, none⟩) (F.len + 1) c4) (F.len + 1) (F.cells.take (k * 6) ++ (six hx ax X.len cx ++ F.cells.drop (k * 6))) ∧ W5.ownsRow w.heap.size 9 1 (.slice (some ⟨g2, 0, none⟩) (h.ns.length + 1) c2) (h.ns.length + 1) ((texts h.ns).take (k * 1) ++ ([Value.string s] ++ (texts h.ns).drop (k * 1)))) := ⟨hown5, hown5'⟩
          clear hown5 hown5' C5 D5
          go_wp2_with fail
          have hcs : ∀ q, q < 6 → ∃ u, W5.cell? ⟨w.heap.size + 1 + 1, 0 + q, none⟩ = some u := fun q hq => by
            rw [Nat.zero_add]
            have : q = 0 ∨ q = 1 ∨ q = 2 ∨ q = 3 ∨ q = 4 ∨ q = 5 := by omega
            rcases this with rfl | rfl | rfl | rfl | rfl | rfl
            · exact ⟨_, c0⟩
            · exact ⟨_, c1⟩
            · exact ⟨_, c2'⟩
            · exact ⟨_, c3⟩
            · exact ⟨_, c4'⟩
            · exact ⟨_, c5⟩
          have HB : Hid (Below w.heap.size w (put6 W5 (w.heap.size + 1 + 1) 0 (.int .i64 6) (.int .i64 0) (.int .i64 0) (.string ⟨#[]⟩) (.slice (some ⟨g4, 0, none⟩) (F.len + 1) c4) (.slice (some ⟨g2, 0, none⟩) (h.ns.length + 1) c2))) := put6_below hB5 (by omega) _ _ _ _ _ _
          have e0 := put6_cell (v0 := .int .i64 6) (v1 := .int .i64 0) (v2 := .int .i64 0) (v3 := .string ⟨#[]⟩) (v4 := .slice (some ⟨g4, 0, none⟩) (F.len + 1) c4) (v5 := .slice (some ⟨g2, 0, none⟩) (h.ns.length + 1) c2) hcs (i := 0) rfl
          have e1 := put6_cell (v0 := .int .i64 6) (v1 := .int .i64 0) (v2 := .int .i64 0) (v3 := .string ⟨#[]⟩) (v4 := .slice (some ⟨g4, 0, none⟩) (F.len + 1) c4) (v5 := .slice (some ⟨g2, 0, none⟩) (h.ns.length + 1) c2) hcs (i := 1) rfl
          have e2 := put6_cell (v0 := .int .i64 6) (v1 := .int .i64 0) (v2 := .int .i64 0) (v3 := .string ⟨#[]⟩) (v4 := .slice (some ⟨g4, 0, none⟩) (F.len + 1) c4) (v5 := .slice (some ⟨g2, 0, none⟩) (h.ns.length + 1) c2) hcs (i := 2) rfl
          have e3 := put6_cell (v0 := .int .i64 6) (v1 := .int .i64 0) (v2 := .int .i64 0) (v3 := .string ⟨#[]⟩) (v4 := .slice (some ⟨g4, 0, none⟩) (F.len + 1) c4) (v5 := .slice (some ⟨g2, 0, none⟩) (h.ns.length + 1) c2) hcs (i := 3) rfl
          have e4 := put6_cell (v0 := .int .i64 6) (v1 := .int .i64 0) (v2 := .int .i64 0) (v3 := .string ⟨#[]⟩) (v4 := .slice (some ⟨g4, 0, none⟩) (F.len + 1) c4) (v5 := .slice (some ⟨g2, 0, none⟩) (h.ns.length + 1) c2) hcs (i := 4) rfl
          have e5 := put6_cell (v0 := .int .i64 6) (v1 := .int .i64 0) (v2 := .int .i64 0) (v3 := .string ⟨#[]⟩) (v4 := .slice (some ⟨g4, 0, none⟩) (F.len + 1) c4) (v5 := .slice (some ⟨g2, 0, none⟩) (h.ns.length + 1) c2) hcs (i := 5) rfl
          have HO6 : Hid ((put6 W5 (w.heap.size + 1 + 1) 0 (.int .i64 6) (.int .i64 0) (.int .i64 0) (.string ⟨#[]⟩) (.slice (some ⟨g4, 0, none⟩) (F.len + 1) c4) (.slice (some ⟨g2, 0, none⟩) (h.ns.length + 1) c2)).ownsRow w.heap.size 28 6 (.slice (some ⟨g4, 0, none⟩) (F.len + 1) c4) (F.len + 1) (F.cells.take (k * 6) ++ (six hx ax X.len cx ++ F.cells.drop (k * 6))) ∧ (put6 W5 (w.heap.size + 1 + 1) 0 (.int .i64 6) (.int .i64 0) (.int .i64 0) (.string ⟨#[]⟩) (.slice (some ⟨g4, 0, none⟩) (F.len + 1) c4) (.slice (some ⟨g2, 0, none⟩) (h.ns.length + 1) c2)).ownsRow w.heap.size 9 1 (.slice (some ⟨g2, 0, none⟩) (h.ns.length + 1) c2) (h.ns.length + 1) ((texts h.ns).take (k * 1) ++ ([Value.string s] ++ (texts h.ns).drop (k * 1)))) :=
            ⟨own_put6 HOW.out.1 (by intro g hg; simp [Value.ownBlock] at hg; omega), own_put6 HOW.out.2 (by intro g hg; simp [Value.ownBlock] at hg; omega)⟩
          show bodyPost Try.prog Try.f49 _ Exit.ret _ (put6 W5 (w.heap.size + 1 + 1) 0 (.int .i64 6) (.int .i64 0) (.int .i64 0) (.string ⟨#[]⟩) (.slice (some ⟨g4, 0, none⟩) (F.len + 1) c4) (.slice (some ⟨g2, 0, none⟩) (h.ns.length + 1) c2))
          generalize put6 W5 (w.heap.size + 1 + 1) 0 (.int .i64 6) (.int .i64 0) (.int .i64 0) (.string ⟨#[]⟩) (.slice (some ⟨g4, 0, none⟩) (F.len + 1) c4) (.slice (some ⟨g2, 0, none⟩) (h.ns.length + 1) c2) = W6 at *
          simp only [Nat.zero_add] at e0 e1 e2 e3 e4 e5
          have HN2 : Hid ((insN s h.ns).length = h.ns.length + 1) := by unfold Hid insN; rw [HP.out, List.length_append, List.length_cons, List.length_take, List.length_drop]; omega
          refine bodyPost_ret (v := .tuple #[valV (hdObj (some ⟨g2, 0, none⟩) c2 (insN s h.ns)) (some ⟨g4, 0, none⟩) (F.len + 1) c4, .bool ok]) (by simp [results, Try.results49, go_sem, e0, e1, e2, e3, e4, e5, hdObj, HN2.out]) rfl ⟨.inr ⟨HD.out, _, _, _, _, rfl, ?_, ?_⟩, HB.out⟩
          · rw [HN2.out]
            have := HO6.out.2
            rw [Nat.mul_one] at this
            unfold texts insN
            rw [HP.out, List.map_append, List.map_cons, List.map_take, List.map_drop]
            exact this
          · rw [insV_cells, HP.out, Vo.cells_oneV]
            exact HO6.out.1
end Go.Proofs.Ytfgchdnpbbgmjaa
