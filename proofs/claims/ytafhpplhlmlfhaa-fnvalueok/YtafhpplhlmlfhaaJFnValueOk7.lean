/- My own texts, joined: Zb Yc Yd Ye Yf Yg Yh. -/
import Derived.Test.YtafhpplhlmlfhaaJFnValueOk2
import Derived.Test.YtafhpplhlmlfhaaJFnValueOk3
import Derived.Test.YtafhpplhlmlfhaaJFnValueOk1
import Derived.Deep.RegionHeld3
import Derived.Test.YtafhpplhlmlfhaaJFnValueOk4
import Derived.Test.YtafhpplhlmlfhaaJFnValueOk0
/- All lists in a thing, each once and behind those that stand in it: the mathematics of a walk with a stack and a map that counts. -/
namespace Go.Proofs.Ytafhpplhlmlfhaa
/-- lists with lists right below, told apart by places -/
structure LSys where
  A : Type
  len : A → Nat
  kid : A → Nat → A
  size : A → Nat
  pl : A → Pl
  ok : A → Prop
  ok_kid : ∀ {a : A} {i : Nat}, ok a → i < len a → ok (kid a i)
  small : ∀ {a : A} {i : Nat}, ok a → i < len a → size (kid a i) < size a
  inj : ∀ {a b : A}, ok a → ok b → pl a = pl b → a = b ∨ (size a = size b ∧ len a = len b ∧ ∀ i, i < len a → pl (kid a i) = pl (kid b i))
section
variable (Y : LSys)
def LSys.sumTo (a : Y.A) : Nat → Nat
  | 0 => 0
  | n + 1 => LSys.sumTo a n + (Y.size (Y.kid a n) + 1)
/-- the lists right below that were not met -/
def LSys.unm (M : Pl → Nat) (a : Y.A) : Nat → List Y.A
  | 0 => []
  | n + 1 => LSys.unm M a n ++ (if M (Y.pl (Y.kid a n)) = 0 then [Y.kid a n] else [])
theorem LSys.unm_mem {M : Pl → Nat} {a : Y.A} {n : Nat} {u : Y.A} : u ∈ Y.unm M a n ↔ ∃ i, i < n ∧ u = Y.kid a i ∧ M (Y.pl (Y.kid a i)) = 0 := by
  induction n with
  | zero =>
    constructor
    · intro h; exact absurd h List.not_mem_nil
    · rintro ⟨i, h, _⟩; exact absurd h (Nat.not_lt_zero _)
  | succ n ih =>
    show u ∈ Y.unm M a n ++ (if M (Y.pl (Y.kid a n)) = 0 then [Y.kid a n] else []) ↔ _
    rw [List.mem_append, ih]
    constructor
    · rintro (⟨i, h1, h2⟩ | h)
      · exact ⟨i, by omega, h2⟩
      · split at h
        · rename_i h0
          rw [List.mem_singleton] at h
          exact ⟨n, by omega, h, h0⟩
        · exact absurd h List.not_mem_nil
    · rintro ⟨i, h1, h2, h3⟩
      by_cases e : i = n
      · subst e
        right
        rw [if_pos h3, h2]
        exact List.mem_singleton.2 rfl
      · exact .inl ⟨i, by omega, h2, h3⟩
/-- one more -/
def bump (M : Pl → Nat) (p : Pl) : Pl → Nat := fun q => if q = p then M p + 1 else M q
theorem bump_same (M : Pl → Nat) (p : Pl) : bump M p p = M p + 1 := if_pos rfl
theorem bump_other {M : Pl → Nat} {p q : Pl} (h : q ≠ p) : bump M p q = M q := if_neg h
theorem bump_le (M : Pl → Nat) (p q : Pl) : M q ≤ bump M p q := by
  by_cases e : q = p
  · subst e; rw [bump_same]; omega
  · rw [bump_other e]; omega
/-- what the walk keeps: S the stack, M how often a list was met, pre what was told -/
structure Inv (top : Y.A) (S : List Y.A) (M : Pl → Nat) (pre : List Y.A) : Prop where
  oks : ∀ y ∈ S, Y.ok y
  okp : ∀ y ∈ pre, Y.ok y
  okm : ∀ p, M p ≠ 0 → ∃ y, Y.ok y ∧ Y.pl y = p
  told : ∀ p, 2 ≤ M p → ∃ z ∈ pre, Y.pl z = p
  opn : ∀ p, M p = 1 → ∃ A y B, S = A ++ y :: B ∧ Y.pl y = p ∧ (∀ z ∈ B, Y.pl z ≠ p ∧ Y.size z < Y.size y) ∧ ∀ i, i < Y.len y → 2 ≤ M (Y.pl (Y.kid y i)) ∨ ∃ z ∈ B, Y.pl z = Y.pl (Y.kid y i)
  top : M (Y.pl top) ≠ 0 ∨ top ∈ S
theorem Inv.start {top : Y.A} (h : Y.ok top) : Inv Y top [top] (fun _ => 0) [] where
  oks := fun y hy => by rw [List.mem_singleton] at hy; subst hy; exact h
  okp := fun y hy => absurd hy List.not_mem_nil
  okm := fun p hp => absurd rfl hp
  told := fun p hp => by omega
  opn := fun p hp => by cases hp
  top := .inr (List.mem_singleton.2 rfl)
theorem Inv.done {top : Y.A} {M : Pl → Nat} {pre : List Y.A} (h : Inv Y top [] M pre) : ∃ z ∈ pre, Y.pl z = Y.pl top := by
  have h0 : M (Y.pl top) ≠ 0 := by rcases h.top with h | h; exact h; exact absurd h List.not_mem_nil
  by_cases h1 : M (Y.pl top) = 1
  · obtain ⟨A, y, B, e, _⟩ := h.opn _ h1
    exact absurd (congrArg List.length e) (by simp)
  · exact h.told _ (by omega)
/-- the last of a stack is the open one, or stands above it -/
theorem split_last {α : Type} {S A B : List α} {y z : α} (h : S ++ [y] = A ++ z :: B) : (B = [] ∧ z = y ∧ A = S) ∨ ∃ B', B = B' ++ [y] ∧ S = A ++ z :: B' := by
  rcases List.eq_nil_or_concat B with rfl | ⟨B', b, rfl⟩
  · left
    have h' : S ++ [y] = A ++ [z] := h
    have := List.append_inj' h' rfl
    exact ⟨rfl, by simpa using this.2.symm, this.1.symm⟩
  · right
    rw [List.concat_eq_append] at h ⊢
    have h' : S ++ [y] = (A ++ z :: B') ++ [b] := by rw [h]; simp
    have := List.append_inj' h' rfl
    have e : y = b := by simpa using this.2
    exact ⟨B', by rw [e], this.1⟩
theorem Inv.again {top y : Y.A} {S : List Y.A} {M : Pl → Nat} {pre : List Y.A} (h : Inv Y top (S ++ [y]) M pre) (hm : 2 ≤ M (Y.pl y)) : Inv Y top S (bump M (Y.pl y)) pre where
  oks := fun z hz => h.oks z (List.mem_append_left _ hz)
  okp := h.okp
  okm := fun p hp => by
    by_cases e : p = Y.pl y
    · exact ⟨y, h.oks y (by simp), e.symm⟩
    · rw [bump_other e] at hp; exact h.okm p hp
  told := fun p hp => by
    by_cases e : p = Y.pl y
    · rw [e]; exact h.told _ hm
    · rw [bump_other e] at hp; exact h.told p hp
  opn := fun p hp => by
    by_cases e : p = Y.pl y
    · subst e; rw [bump_same] at hp; omega
    · rw [bump_other e] at hp
      obtain ⟨A, z, B, e1, e2, e3, e4⟩ := h.opn p hp
      rcases split_last e1 with ⟨_, rfl, _⟩ | ⟨B', rfl, e5⟩
      · exact absurd e2.symm e
      · refine ⟨A, z, B', e5, e2, fun u hu => e3 u (List.mem_append_left _ hu), fun i hi => ?_⟩
        rcases e4 i hi with h4 | ⟨u, hu, e6⟩
        · exact .inl (Nat.le_trans h4 (bump_le _ _ _))
        · rcases List.mem_append.1 hu with hu | hu
          · exact .inr ⟨u, hu, e6⟩
          · rw [List.mem_singleton] at hu
            subst hu
            rw [← e6, bump_same]
            exact .inl (by omega)
  top := by
    rcases h.top with h1 | h1
    · exact .inl (by have := bump_le M (Y.pl y) (Y.pl top); omega)
    · rcases List.mem_append.1 h1 with h1 | h1
      · exact .inr h1
      · rw [List.mem_singleton] at h1
        subst h1
        rw [bump_same]
        exact .inl (by omega)
theorem Inv.tell {top y : Y.A} {S : List Y.A} {M : Pl → Nat} {pre : List Y.A} (h : Inv Y top (S ++ [y]) M pre) (hm : M (Y.pl y) = 1) :
    (∀ i, i < Y.len y → ∃ z ∈ pre, Y.pl z = Y.pl (Y.kid y i)) ∧ Inv Y top S (bump M (Y.pl y)) (pre ++ [y]) := by
  constructor
  · intro i hi
    obtain ⟨A, z, B, e1, e2, e3, e4⟩ := h.opn _ hm
    rcases split_last e1 with ⟨rfl, rfl, _⟩ | ⟨B', rfl, _⟩
    · rcases e4 i hi with h4 | ⟨u, hu, _⟩
      · exact h.told _ h4
      · exact absurd hu List.not_mem_nil
    · exact absurd rfl (e3 y (by simp)).1
  · refine ⟨fun z hz => h.oks z (List.mem_append_left _ hz), fun z hz => ?_, fun p hp => ?_, fun p hp => ?_, fun p hp => ?_, ?_⟩
    · rcases List.mem_append.1 hz with hz | hz
      · exact h.okp z hz
      · rw [List.mem_singleton] at hz; subst hz; exact h.oks z (by simp)
    · by_cases e : p = Y.pl y
      · exact ⟨y, h.oks y (by simp), e.symm⟩
      · rw [bump_other e] at hp; exact h.okm p hp
    · by_cases e : p = Y.pl y
      · exact ⟨y, by simp, e.symm⟩
      · rw [bump_other e] at hp
        obtain ⟨z, hz, e'⟩ := h.told p hp
        exact ⟨z, List.mem_append_left _ hz, e'⟩
    · by_cases e : p = Y.pl y
      · subst e; rw [bump_same] at hp; omega
      · rw [bump_other e] at hp
        obtain ⟨A, z, B, e1, e2, e3, e4⟩ := h.opn p hp
        rcases split_last e1 with ⟨_, rfl, _⟩ | ⟨B', rfl, e5⟩
        · exact absurd e2.symm e
        · refine ⟨A, z, B', e5, e2, fun u hu => e3 u (List.mem_append_left _ hu), fun i hi => ?_⟩
          rcases e4 i hi with h4 | ⟨u, hu, e6⟩
          · exact .inl (Nat.le_trans h4 (bump_le _ _ _))
          · rcases List.mem_append.1 hu with hu | hu
            · exact .inr ⟨u, hu, e6⟩
            · rw [List.mem_singleton] at hu
              subst hu
              rw [← e6, bump_same]
              exact .inl (by omega)
    · rcases h.top with h1 | h1
      · exact .inl (by have := bump_le M (Y.pl y) (Y.pl top); omega)
      · rcases List.mem_append.1 h1 with h1 | h1
        · exact .inr h1
        · rw [List.mem_singleton] at h1
          subst h1
          rw [bump_same]
          exact .inl (by omega)
theorem LSys.size_inj {a b : Y.A} (ha : Y.ok a) (hb : Y.ok b) (h : Y.pl a = Y.pl b) : Y.size a = Y.size b := by
  rcases Y.inj ha hb h with e | e
  · rw [e]
  · exact e.1
theorem Inv.open_ {top y : Y.A} {S : List Y.A} {M : Pl → Nat} {pre : List Y.A} (h : Inv Y top (S ++ [y]) M pre) (hm : M (Y.pl y) = 0) :
    Inv Y top (S ++ [y] ++ Y.unm (bump M (Y.pl y)) y (Y.len y)) (bump M (Y.pl y)) pre := by
  have hy := h.oks y (by simp)
  have hku : ∀ i, i < Y.len y → Y.pl (Y.kid y i) ≠ Y.pl y := fun i hi e => by
    have h1 := Y.size_inj (Y.ok_kid hy hi) hy e
    have h2 := Y.small hy hi
    omega
  refine ⟨fun z hz => ?_, h.okp, fun p hp => ?_, fun p hp => ?_, fun p hp => ?_, ?_⟩
  · rcases List.mem_append.1 hz with hz | hz
    · exact h.oks z hz
    · obtain ⟨i, hi, rfl, _⟩ := (Y.unm_mem).1 hz
      exact Y.ok_kid hy hi
  · by_cases e : p = Y.pl y
    · exact ⟨y, hy, e.symm⟩
    · rw [bump_other e] at hp; exact h.okm p hp
  · by_cases e : p = Y.pl y
    · subst e; rw [bump_same] at hp; omega
    · rw [bump_other e] at hp; exact h.told p hp
  · by_cases e : p = Y.pl y
    · subst e
      refine ⟨S, y, Y.unm (bump M (Y.pl y)) y (Y.len y), by simp, rfl, fun z hz => ?_, fun i hi => ?_⟩
      · obtain ⟨i, hi, rfl, _⟩ := (Y.unm_mem).1 hz
        exact ⟨hku i hi, Y.small hy hi⟩
      · by_cases h0 : bump M (Y.pl y) (Y.pl (Y.kid y i)) = 0
        · exact .inr ⟨Y.kid y i, (Y.unm_mem).2 ⟨i, hi, rfl, h0⟩, rfl⟩
        · left
          rw [bump_other (hku i hi)] at h0 ⊢
          by_cases h1 : M (Y.pl (Y.kid y i)) = 1
          · exfalso
            obtain ⟨A, z, B, e1, e2, e3, _⟩ := h.opn _ h1
            have hz : Y.ok z := h.oks z (by rw [e1]; simp)
            have hs := Y.size_inj hz (Y.ok_kid hy hi) e2
            have hk := Y.small hy hi
            rcases split_last e1 with ⟨_, rfl, _⟩ | ⟨B', rfl, _⟩
            · exact hku i hi e2.symm
            · have := (e3 y (by simp)).2
              omega
          · omega
    · rw [bump_other e] at hp
      obtain ⟨A, z, B, e1, e2, e3, e4⟩ := h.opn p hp
      rcases split_last e1 with ⟨_, rfl, _⟩ | ⟨B', rfl, e5⟩
      · exact absurd e2.symm e
      · refine ⟨A, z, B' ++ [y] ++ Y.unm (bump M (Y.pl y)) y (Y.len y), by rw [e5]; simp, e2, fun u hu => ?_, fun i hi => ?_⟩
        · rcases List.mem_append.1 hu with hu | hu
          · exact e3 u hu
          · obtain ⟨i, hi, rfl, h0⟩ := (Y.unm_mem).1 hu
            refine ⟨fun e' => ?_, ?_⟩
            · rw [e'] at h0
              rw [bump_other e] at h0
              omega
            · have h1 := (e3 y (by simp)).2
              have h2 := Y.small hy hi
              omega
        · rcases e4 i hi with h4 | ⟨u, hu, e6⟩
          · exact .inl (Nat.le_trans h4 (bump_le _ _ _))
          · exact .inr ⟨u, List.mem_append_left _ hu, e6⟩
  · rcases h.top with h1 | h1
    · exact .inl (by have := bump_le M (Y.pl y) (Y.pl top); omega)
    · exact .inr (List.mem_append_left _ h1)
/-- how much is to be done -/
def LSys.cost (M : Pl → Nat) : List Y.A → Nat
  | [] => 0
  | y :: t => (if M (Y.pl y) = 0 then 2 * (Y.size y + 1) else 1) + LSys.cost M t
theorem LSys.cost_append (M : Pl → Nat) (A B : List Y.A) : Y.cost M (A ++ B) = Y.cost M A + Y.cost M B := by
  induction A with
  | nil => show Y.cost M B = 0 + Y.cost M B; omega
  | cons y t ih => show _ + Y.cost M (t ++ B) = _ + Y.cost M t + Y.cost M B; rw [ih]; omega
theorem LSys.cost_length (M : Pl → Nat) (A : List Y.A) : A.length ≤ Y.cost M A := by
  induction A with
  | nil => exact Nat.le_refl _
  | cons y t ih =>
    show t.length + 1 ≤ (if M (Y.pl y) = 0 then 2 * (Y.size y + 1) else 1) + Y.cost M t
    split <;> omega
theorem LSys.cost_bump (M : Pl → Nat) (p : Pl) (A : List Y.A) : Y.cost (bump M p) A ≤ Y.cost M A := by
  induction A with
  | nil => exact Nat.le_refl _
  | cons y t ih =>
    show (if bump M p (Y.pl y) = 0 then 2 * (Y.size y + 1) else 1) + Y.cost (bump M p) t ≤ (if M (Y.pl y) = 0 then 2 * (Y.size y + 1) else 1) + Y.cost M t
    have hb := bump_le M p (Y.pl y)
    by_cases h0 : bump M p (Y.pl y) = 0
    · rw [if_pos h0, if_pos (by omega)]; omega
    · rw [if_neg h0]
      split <;> omega
theorem LSys.cost_unm (M : Pl → Nat) (a : Y.A) (n : Nat) : Y.cost M (Y.unm M a n) ≤ 2 * Y.sumTo a n := by
  induction n with
  | zero => exact Nat.le_refl _
  | succ n ih =>
    show Y.cost M (Y.unm M a n ++ (if M (Y.pl (Y.kid a n)) = 0 then [Y.kid a n] else [])) ≤ 2 * (Y.sumTo a n + (Y.size (Y.kid a n) + 1))
    rw [Y.cost_append]
    split
    · rename_i h0
      have e : Y.cost M [Y.kid a n] = (if M (Y.pl (Y.kid a n)) = 0 then 2 * (Y.size (Y.kid a n) + 1) else 1) + 0 := rfl
      rw [e, if_pos h0]
      omega
    · show Y.cost M (Y.unm M a n) + 0 ≤ _
      omega
theorem LSys.cost_one (M : Pl → Nat) (y : Y.A) : Y.cost M [y] = if M (Y.pl y) = 0 then 2 * (Y.size y + 1) else 1 := by
  show (if M (Y.pl y) = 0 then 2 * (Y.size y + 1) else 1) + 0 = _; omega
theorem LSys.cost_open (M : Pl → Nat) (S : List Y.A) (y : Y.A) (hm : M (Y.pl y) = 0) (hs : Y.sumTo y (Y.len y) ≤ Y.size y) : Y.cost (bump M (Y.pl y)) (S ++ [y] ++ Y.unm (bump M (Y.pl y)) y (Y.len y)) + 1 ≤ Y.cost M (S ++ [y]) := by
  rw [Y.cost_append, Y.cost_append, Y.cost_append, Y.cost_one, Y.cost_one, bump_same, if_neg (by omega), if_pos hm]
  have h1 := Y.cost_bump M (Y.pl y) S
  have h2 := Y.cost_unm (bump M (Y.pl y)) y (Y.len y)
  omega
theorem LSys.cost_pop (M : Pl → Nat) (S : List Y.A) (y : Y.A) : Y.cost (bump M (Y.pl y)) S + 1 ≤ Y.cost M (S ++ [y]) := by
  rw [Y.cost_append, Y.cost_one]
  have h1 := Y.cost_bump M (Y.pl y) S
  split <;> omega
end
end Go.Proofs.Ytafhpplhlmlfhaa
/- How many values a value has and how deep it is, by the program: lists told apart by places; those right below that were not met. -/
namespace Go.Proofs.Ytafhpplhlmlfhaa
open Go.RowKit
/-- a list as a slice -/
structure Li where
  a : Option Addr
  F : Vo
  c : Nat
def Li.pl (x : Li) : Pl := plOf x.a x.F.len
def Li.kid (x : Li) (i : Nat) : Li := ⟨x.F.addrAt i, x.F.kidsAt i, x.F.capAt i⟩
def Li.v (x : Li) : Value := .slice x.a x.F.len x.c
/-- it lies there, in cells that are not frozen -/
def Li.Ok (w : World) (x : Li) : Prop := x.F.In w x.a ∧ PlOk w x.pl ∧ x.F.Cl w ∧ x.F.size ≤ 1100000
theorem Li.ok_kid {w : World} {x : Li} {i : Nat} (h : x.Ok w) (hi : i < x.F.len) : (x.kid i).Ok w := by
  have hk := h.2.2.1.at hi
  have hs := Vo.size_at hi
  have h4 := h.2.2.2
  exact ⟨In_kidV h.1 hi, hk.1, hk.2, by show (x.F.kidsAt i).size ≤ 1100000; omega⟩
theorem Li.F_inj {w : World} {x y : Li} (hx : x.Ok w) (hy : y.Ok w) (h : x.pl = y.pl) : x.F = y.F :=
  pl_injV (w := w) (x := ⟨⟨0, 0, 0, ⟨#[]⟩, none, 0, []⟩, x.a, x.F, x.c⟩) (y := ⟨⟨0, 0, 0, ⟨#[]⟩, none, 0, []⟩, y.a, y.F, y.c⟩) hx.1 hy.1 h
/-- lists of values in a world -/
abbrev liSys (w : World) : LSys where
  A := Li
  len := fun x => x.F.len
  kid := Li.kid
  size := fun x => x.F.size
  pl := Li.pl
  ok := Li.Ok w
  ok_kid := fun h hi => Li.ok_kid h hi
  small := fun _ hi => Vo.size_at hi
  inj := fun {a b} ha hb h => .inr (by
    have e := Li.F_inj ha hb h
    refine ⟨by rw [e], by rw [e], fun i _ => ?_⟩
    unfold Li.kid Li.pl
    rw [e])
theorem li_sum (w : World) (x : Li) : (liSys w).sumTo x x.F.len ≤ x.F.size := by
  have : ∀ n, (liSys w).sumTo x n = x.F.upTo n := by
    intro n
    induction n with
    | zero => rfl
    | succ n ih => show (liSys w).sumTo x n + ((x.F.kidsAt n).size + 1) = x.F.upTo n + ((x.F.kidsAt n).size + 1); rw [ih]
  rw [this, upTo_lenV]
  exact Nat.le_refl _
/-- the map counts how often a place was met -/
def Counts (L : List (Pl × Value)) (M : Pl → Nat) : Prop := ∀ p, getL p L = if M p = 0 then none else some (.int .i64 (M p : Nat))
theorem counts_zero : Counts [] (fun _ => 0) := fun _ => rfl
theorem counts_get {L : List (Pl × Value)} {M : Pl → Nat} (h : Counts L M) (p : Pl) : (getL p L).getD (.int .i64 0) = .int .i64 (M p : Nat) := by
  rw [h p]
  split
  · rename_i e; rw [e]; rfl
  · rfl
theorem counts_put {L : List (Pl × Value)} {M : Pl → Nat} (h : Counts L M) (p : Pl) : Counts (putL p (.int .i64 ((M p : Int) + 1)) L) (bump M p) := fun q => by
  rw [getL_put]
  by_cases e : q = p
  · subst e
    rw [if_pos rfl, bump_same, if_neg (by omega)]
    rfl
  · rw [if_neg e, bump_other e]; exact h q
theorem len_or' {w : World} {F : Vo} {a : Option Addr} (h : F.In w a) : F.len = 0 ∨ ∃ b o, a = some ⟨b, o, none⟩ := by
  rcases h with rfl | ⟨b, o, e, _⟩
  · exact .inl rfl
  · exact .inr ⟨b, o, e⟩
theorem ob_or' (v : Value) : v.ownBlock = none ∨ v.ownBlock ≠ none := by
  cases h : v.ownBlock with
  | none => exact .inl rfl
  | some b => exact .inr (fun e => by cases e)
theorem listsInfo : (Try.prog.info? 25).map (fun i => (i.zero, i.size, i.bytes)) = some (some (.slice none 0 0), 1, 24) := by kernel_rfl
set_option maxRecDepth 100000 in
set_option maxHeartbeats 2000000 in
theorem unmet_any (x : Li) (M : Pl → Nat) (L : List (Pl × Value)) (mb : Nat) (w0 w : World) (hok : x.Ok w0) (hw : Below w0.heap.size w0 w) (hn : x.F.len ≤ 2000000) (hm : plKeysV.Has w mb L) (hC : Counts L M) (hks : ∀ q ∈ L, PlOk w0 q.1) (hsm : ∀ i, i < x.F.len → (x.F.kidsAt i).len ≤ 2000000) :
    Calls Try.prog 82 #[x.v, .map (some mb)] w fun r w' => (∃ v, r = .returned v ∧ w'.ownsRow w.heap.size 25 1 v ((liSys w0).unm M x x.F.len).length (((liSys w0).unm M x x.F.len).map Li.v)) ∧ Below w.heap.size w w' := by
  obtain ⟨i0, hi, hz0, hz1, hz2⟩ := info_parts listsInfo
  have hmeth := belowV_method
  obtain ⟨a, F, c⟩ := x
  obtain ⟨N, hN⟩ : ∃ N, F.len = N := ⟨_, rfl⟩
  have HN : Hid (F.len = N) := hN
  have HO : Hid (Li.Ok w0 ⟨a, F, c⟩) := hok
  have HC : Hid (Counts L M) := hC
  have HKs : Hid (∀ q ∈ L, PlOk w0 q.1) := hks
  have HMp : Hid (plKeysV.Has w mb L) := hm
  have HSm : Hid (∀ i, i < F.len → (F.kidsAt i).len ≤ 2000000) := hsm
  have HUl : Hid (∀ j, ((liSys w0).unm M ⟨a, F, c⟩ j).length ≤ j) := fun j => by
    induction j with
    | zero => exact Nat.le_refl _
    | succ j ih => show ((liSys w0).unm M ⟨a, F, c⟩ j ++ _).length ≤ j + 1; rw [List.length_append]; split <;> simp <;> omega
  dsimp only [Li.v] at hn ⊢
  rw [hN] at hn ⊢
  clear hN hok hC hks hm hsm
  go_enter Try.func82, Try.ntmps82
  go_wp2_with fail
  go_loopw [5, 10] (fun v i wr => ∃ j : Nat, i = .int .i64 j ∧ j ≤ N ∧ wr.ownsRow w.heap.size 25 1 v ((liSys w0).unm M ⟨a, F, c⟩ j).length (((liSys w0).unm M ⟨a, F, c⟩ j).map Li.v) ∧ Below w.heap.size w wr) (fun _ i _ => N - (intOf i).toNat)
  case atStart => exact ⟨0, rfl, Nat.zero_le _, ⟨rfl, .inl ⟨rfl, rfl⟩⟩, Below.refl _ _⟩
  case round =>
    obtain ⟨j, rfl, hj, hown, hb⟩ := hrel
    by_cases hjn : j < N
    · have hjl : (j : Int) < (N : Int) := by omega
      have hjF : j < F.len := by rw [HN.out]; exact hjn
      obtain ⟨b, o, rfl, hFr⟩ := Vo.from_of_len HO.out.1 hjF
      have hbw := hw.trans (hb.mono hw.size)
      obtain ⟨⟨h1, h2, h3, h4, h5, h6⟩, _⟩ := Vo.from_at (Vo.from_grow hbw F b o hFr) hjF
      have hko := Li.ok_kid HO.out hjF
      have hkl := HSm.out j hjF
      have hka := len_or' hko.1
      have HKo : Hid (Li.Ok w0 (Li.kid ⟨some ⟨b, o, none⟩, F, c⟩ j)) := hko
      have HOw : Hid (wr.ownsRow w.heap.size 25 1 u5 ((liSys w0).unm M ⟨some ⟨b, o, none⟩, F, c⟩ j).length (((liSys w0).unm M ⟨some ⟨b, o, none⟩, F, c⟩ j).map Li.v)) := hown
      have hul := HUl.out j
      have hB1 := (Below.refl wr.heap.size wr).alloc (Nat.le_refl _) (.cells #[.int .i64 (F.hdAt j).k, .int .i64 (F.hdAt j).m, .int .i64 (F.hdAt j).e, .string (F.hdAt j).t, .slice (F.addrAt j) (F.kidsAt j).len (F.capAt j), .slice (F.hdAt j).na (F.hdAt j).ns.length (F.hdAt j).nc] 28)
      have R1 := Row.new wr [.int .i64 (F.hdAt j).k, .int .i64 (F.hdAt j).m, .int .i64 (F.hdAt j).e, .string (F.hdAt j).t, .slice (F.addrAt j) (F.kidsAt j).len (F.capAt j), .slice (F.hdAt j).na (F.hdAt j).ns.length (F.hdAt j).nc] 28
      clear hFr hko hown
      go_wp2_with fail
      refine (belowV_any (F.hdAt j) (F.addrAt j) (F.kidsAt j).len (F.capAt j) _).mono ?_
      rintro r w2 ⟨rfl, hb2⟩
      have R2 := R1.below hb2 R1.lt
      have hb2' : Below wr.heap.size wr w2 := hB1.trans (hb2.mono (by simp))
      clear h1 h2 h3 h4 h5 h6 R1 hb2 hB1
      go_wp2_with fail
      refine (placeOfV_any (F.addrAt j) (F.kidsAt j).len (F.capAt j) _ hka hkl).mono ?_
      rintro r w3 ⟨rfl, hb3⟩
      have R3 := R2.below hb3 R2.lt
      have hb3' := hb2'.trans (hb3.mono hb2'.size)
      have hB3 := hb.trans (hb3'.mono hb.size)
      have hW := hw.trans (hB3.mono hw.size)
      have hz : (zeroValue 3).run Try.prog w3 = .ok (.int .i64 0) w3 := by kernel_rfl
      have hm3 : plKeysV.Has w3 mb L := HMp.out.same _ (hB3.block _ (by obtain ⟨es, clock, h, _⟩ := HMp.out; exact (Array.getElem?_eq_some_iff.1 h).1))
      have hlook0 := plKeysV.look (mty := 129) (et := 3) Try.underlying129 (plOf (F.addrAt j) (F.kidsAt j).len) (HKo.out.2.1.below hW) (fun q hq => (HKs.out q hq).below hW) hm3.is hz
      rw [counts_get HC.out] at hlook0
      have hlook : (Instr.lookup 129 (.map (some mb)) (.agg #[.pointer (plOf (F.addrAt j) (F.kidsAt j).len).1, .int .i64 (plOf (F.addrAt j) (F.kidsAt j).len).2]) false).run Try.prog w3 = .ok (.int .i64 (M (plOf (F.addrAt j) (F.kidsAt j).len) : Nat)) w3 := hlook0
      have HOw3 : Hid (w3.ownsRow w.heap.size 25 1 u5 ((liSys w0).unm M ⟨some ⟨b, o, none⟩, F, c⟩ j).length (((liSys w0).unm M ⟨some ⟨b, o, none⟩, F, c⟩ j).map Li.v)) := HOw.out.kept (row := none) ⟨hb3'.os, hb3'.tape, hb3'.output, hb3'.size, fun k hk _ => hb3'.block k hk⟩ (ob_or' _)
      clear hlook0 hz hm3 R2 hb3 hb2' HOw hW
      have HU : Hid ((liSys w0).unm M ⟨some ⟨b, o, none⟩, F, c⟩ (j + 1) = (liSys w0).unm M ⟨some ⟨b, o, none⟩, F, c⟩ j ++ (if M (plOf (F.addrAt j) (F.kidsAt j).len) = 0 then [Li.kid ⟨some ⟨b, o, none⟩, F, c⟩ j] else [])) := rfl
      unfold plV
      by_cases hM : M (plOf (F.addrAt j) (F.kidsAt j).len) = 0
      · rw [hM] at hlook
        have hlook' : (Instr.lookup 129 (.map (some mb)) (.agg #[.pointer (plOf (F.addrAt j) (F.kidsAt j).len).1, .int .i64 (plOf (F.addrAt j) (F.kidsAt j).len).2]) false).run Try.prog w3 = .ok (.int .i64 0) w3 := hlook
        obtain ⟨x0, _⟩ := R3 0 _ rfl
        obtain ⟨x1, _⟩ := R3 1 _ rfl
        obtain ⟨x2, _⟩ := R3 2 _ rfl
        obtain ⟨x3, _⟩ := R3 3 _ rfl
        obtain ⟨x4, _⟩ := R3 4 _ rfl
        obtain ⟨x5, _⟩ := R3 5 _ rfl
        clear hlook
        go_wp2_with fail
        refine (belowV_any (F.hdAt j) (F.addrAt j) (F.kidsAt j).len (F.capAt j) _).mono ?_
        rintro r w4 ⟨rfl, hb4⟩
        have hB4 := hB3.trans (hb4.mono hB3.size)
        have hown4 := HOw3.out.kept (row := none) ⟨hb4.os, hb4.tape, hb4.output, hb4.size, fun k hk _ => hb4.block k hk⟩ (ob_or' _)
        have hz4 := hB4.size
        clear x0 x1 x2 x3 x4 x5 R3 hlook' hb4 HOw3
        go_wp2_with (at_builtin; refine wpList_append_own _ rfl _ _ 130 rfl w.heap.size 25 i0 (.slice none 0 0) 1 24 Try.underlying130 hi hz0 hz1 hz2 rfl (by decide) _ _ _ rfl (hown4.alloc _) ⟨w4.heap.size, 0, none⟩ 1 1 [.slice (F.addrAt j) (F.kidsAt j).len (F.capAt j)] rfl rfl (cell_one_new _ _ _) (fun x hx => by simp at hx; subst hx; rfl) (by unfold maxLen; omega) (by omega) (by simp; omega) ?_; intro v' w5 hown5 hgrow5 hnil5)
        have hB4a := hB4.alloc hB4.size (.cells #[.slice (F.addrAt j) (F.kidsAt j).len (F.capAt j)] 25)
        have hB5 : Below w.heap.size w w5 := hB4a.grown hgrow5 (by have := hB4a.size; omega) (fun k hk => ((hown4.alloc (.cells #[.slice (F.addrAt j) (F.kidsAt j).len (F.capAt j)] 25)).lt k hk).1)
        go_round
        case rel =>
          refine ⟨j + 1, by go_num, by omega, ?_, hB5⟩
          rw [HU.out, if_pos hM, List.length_append, List.map_append]
          exact hown5
        case measure => simp [intOf]; omega
      · have hM' : ((M (plOf (F.addrAt j) (F.kidsAt j).len) : Int) == 0) = false := by simp; omega
        clear R3
        go_wp2_with fail
        go_round
        case rel =>
          refine ⟨j + 1, by go_num, by omega, ?_, hB3⟩
          rw [HU.out, if_neg hM, List.append_nil]
          exact HOw3.out
        case measure => simp [intOf]; omega
    · have e : j = N := by omega
      subst e
      go_wp2_with fail
      go_ret
      exact ⟨⟨_, rfl, hown⟩, hb⟩
end Go.Proofs.Ytafhpplhlmlfhaa
/- All lists in a value, by the program: the region that counts a list; sums up to the greatest number. -/
namespace Go.Proofs.Ytafhpplhlmlfhaa
open Go.RowKit
theorem stamp_isP {w : World} {b : Nat} {x : Pl} {s : Nat} {L : List (Pl × Value)} (h : plKeysV.Stamp w b x s L) : plKeysV.Is w b L := by
  obtain ⟨es, clock, n, e, h1, h2, _⟩ := h
  exact ⟨es, clock, h1, h2⟩
theorem has_lt {w : World} {b : Nat} {L : List (Pl × Value)} (h : plKeysV.Has w b L) : b < w.heap.size := by
  obtain ⟨es, clock, h, _⟩ := h
  exact (Array.getElem?_eq_some_iff.1 h).1
theorem has_below {w w' : World} {b : Nat} {L : List (Pl × Value)} (h : plKeysV.Has w b L) (hb : Below w.heap.size w w') : plKeysV.Has w' b L := h.same _ (hb.block _ (has_lt h))
theorem PlOk.grownH {w w' : World} {p : Pl} {mb : Nat} {L : List (Pl × Value)} (h : PlOk w p) (hg : w.grownBy w' (some mb)) (hm : plKeysV.Has w mb L) : PlOk w' p := by
  obtain ⟨es, clock, hh, _⟩ := hm
  exact h.grown hg hh
/-- the sum of two, or the greatest number -/
def upTo2 (x y : Nat) : Nat := if 9223372036854775807 < x + y then 9223372036854775807 else x + y
theorem sumUpTo_any (x y : Nat) (w : World) (hy : y ≤ 9223372036854775807) :
    Calls Try.prog 52 #[.int .i64 x, .int .i64 y] w fun e w' => e = .returned (.int .i64 (upTo2 x y : Nat)) ∧ Below w.heap.size w w' := by
  go_enter Try.func52, Try.ntmps52
  have hw : IntKind.i64.wrap (9223372036854775807 - (y : Int)) = 9223372036854775807 - (y : Int) := by rw [IntKind.wrap_i64]; omega
  by_cases h : 9223372036854775807 < x + y
  · have hlt : decide ((9223372036854775807 - (y : Int)) < (x : Int)) = true := by simp; omega
    have e : upTo2 x y = 9223372036854775807 := if_pos h
    rw [e]
    go_wp2_with fail
    go_ret
    exact ⟨rfl, Below.refl _ _⟩
  · have hlt : decide ((9223372036854775807 - (y : Int)) < (x : Int)) = false := by simp; omega
    have e : upTo2 x y = x + y := if_neg h
    rw [e]
    have hw2 : IntKind.i64.wrap ((x : Int) + (y : Int)) = (x : Int) + (y : Int) := by rw [IntKind.wrap_i64]; omega
    go_wp2_with fail
    go_ret
    exact ⟨rfl, Below.refl _ _⟩
set_option maxRecDepth 100000 in
set_option maxHeartbeats 1000000 in
theorem ls4 {Q : Exit → Act → World → Prop} {t0 t1 t2 t4 t6 t7 t8 t9 t10 t11 t12 t13 t14 t15 t16 t17 t18 t19 t20 t21 t22 t23 t24 t25 t26 t27 t28 t29 t30 t31 t32 t33 t34 t35 t36 t37 t38 t39 t40 t41 t42 t43 t44 t45 t46 t47 t48 t49 t50 t51 t52 : Value} {W : World} {mb m c : Nat} {a : Option Addr} {L : List (Pl × Value)} {n0 : Nat}
    (hm : plKeysV.Has W mb L) (hok : PlOk W (plOf a m)) (hoks : ∀ q ∈ L, PlOk W q.1) (hg0 : (getL (plOf a m) L).getD (.int .i64 0) = .int .i64 n0) (hn0 : n0 ≤ 100000000) (ha : m = 0 ∨ ∃ b o, a = some ⟨b, o, none⟩) (hml : m ≤ 2000000)
    (hp : ∀ p d v a w, Q (.panic p) (Act.put a d v) w → Q (.panic p) a w) (h : ∀ ws v20 v21 v22 v23 v24 v25 v26, plKeysV.Has ws mb (putL (plOf a m) (.int .i64 ((n0 : Int) + 1)) L) → W.grownBy ws (some mb) → Q .normal { tmps := (t0 :: t1 :: t2 :: (.map (some mb)) :: t4 :: (.slice a m c) :: t6 :: t7 :: t8 :: t9 :: t10 :: t11 :: t12 :: t13 :: t14 :: t15 :: t16 :: t17 :: t18 :: t19 :: v20 :: v21 :: v22 :: v23 :: v24 :: v25 :: v26 :: t27 :: t28 :: t29 :: t30 :: t31 :: t32 :: t33 :: t34 :: t35 :: t36 :: t37 :: t38 :: t39 :: t40 :: t41 :: t42 :: t43 :: t44 :: t45 :: t46 :: t47 :: t48 :: t49 :: t50 :: t51 :: t52 :: []).toArray, defers := [] } ws) :
    Code.wp Try.prog (Code.region 4 #[{ dst := some 20, op := Op.move (Operand.tmp 3), type := 129, pos := "l3_tree.go:327", after := #[], guard := none }, { dst := some 21, op := Op.move (Operand.tmp 5), type := 25, pos := "l3_tree.go:327", after := #[], guard := none }, { dst := some 22, op := Op.call { callee := Callee.value (Operand.func 51), args := #[Operand.tmp 21], argTypes := #[25] }, type := 84, pos := "l3_tree.go:327", after := #[{ on := 1, ground := Ground.data }], guard := none }, { dst := some 23, op := Op.lookup 129 (Operand.tmp 20) (Operand.tmp 22) false, type := 3, pos := "l3_tree.go:327", after := #[{ on := 0, ground := Ground.data }, { on := 2, ground := Ground.data }], guard := none }, { dst := some 24, op := Op.binOp BinOp.add 3 (Operand.tmp 23) (Operand.const (Value.int IntKind.i64 1)) 3, type := 3, pos := "l3_tree.go:327", after := #[{ on := 3, ground := Ground.data }], guard := none }, { dst := some 25, op := Op.mapEntry 129 (Operand.tmp 20) (Operand.tmp 22), type := 0, pos := "l3_tree.go:327", after := #[{ on := 0, ground := Ground.data }, { on := 2, ground := Ground.data }, { on := 2, ground := Ground.chain }, { on := 0, ground := Ground.phase }, { on := 1, ground := Ground.phase }, { on := 2, ground := Ground.phase }, { on := 3, ground := Ground.textOnly Departure.mapOpAssignEntry }, { on := 4, ground := Ground.textOnly Departure.mapOpAssignEntry }], guard := none }, { dst := some 26, op := Op.extract (Operand.tmp 25) 1, type := 3, pos := "l3_tree.go:327", after := #[{ on := 5, ground := Ground.data }], guard := none }, { dst := none, op := Op.entryStore 129 (Operand.tmp 20) (Operand.tmp 26) (Operand.tmp 24), type := 0, pos := "l3_tree.go:327", after := #[{ on := 0, ground := Ground.data }, { on := 6, ground := Ground.data }, { on := 4, ground := Ground.data }, { on := 5, ground := Ground.chain }, { on := 0, ground := Ground.phase }, { on := 1, ground := Ground.phase }, { on := 2, ground := Ground.phase }, { on := 3, ground := Ground.phase }, { on := 4, ground := Ground.phase }, { on := 5, ground := Ground.phase }, { on := 6, ground := Ground.phase }], guard := none }] true) Q { tmps := (t0 :: t1 :: t2 :: (.map (some mb)) :: t4 :: (.slice a m c) :: t6 :: t7 :: t8 :: t9 :: t10 :: t11 :: t12 :: t13 :: t14 :: t15 :: t16 :: t17 :: t18 :: t19 :: t20 :: t21 :: t22 :: t23 :: t24 :: t25 :: t26 :: t27 :: t28 :: t29 :: t30 :: t31 :: t32 :: t33 :: t34 :: t35 :: t36 :: t37 :: t38 :: t39 :: t40 :: t41 :: t42 :: t43 :: t44 :: t45 :: t46 :: t47 :: t48 :: t49 :: t50 :: t51 :: t52 :: []).toArray, defers := [] } W := by
  have hz : ∀ w, (zeroValue 3).run Try.prog w = .ok (.int .i64 0) w := fun w => by kernel_rfl
  refine wp_region_held_drew (S := fun _ => True) (by kernel_rfl) trivial (fun hHeld => ?_)
  have hB0 := (Below.refl W.heap.size W).drew
  refine wpAnyH_take (i := 0) (v := .map (some mb)) rfl (by kernel_rfl) (by kernel_rfl) (by kernel_rfl) (fun _ _ _ h => hp _ _ _ _ _ h) (Or.inl ⟨by rfl, ?_⟩) (by trivial) ?_
  · intro w hSw
    go_simp
  (try simp only [Act.put, List.getElem_toArray, List.getElem_cons_zero, List.setIfInBounds_toArray, List.set_cons_zero, List.set_cons_succ])
  refine wpAnyH_take (i := 1) (v := .slice a m c) rfl (by kernel_rfl) (by kernel_rfl) (by kernel_rfl) (fun _ _ _ h => hp _ _ _ _ _ h) (Or.inl ⟨by rfl, ?_⟩) (by trivial) ?_
  · intro w hSw
    go_simp
  (try simp only [Act.put, List.getElem_toArray, List.getElem_cons_zero, List.getElem_cons_succ, List.setIfInBounds_toArray, List.set_cons_zero, List.set_cons_succ])
  refine wpAnyH_ready (rs := [2]) (by kernel_rfl) (by simp) ?_
  refine AllReadyH.cons rfl (fun K hK => ?_) AllReadyH.nil
  go_simp
  refine (placeOfV_any a m c _ ha hml).mono ?_
  rintro r W9 ⟨rfl, hb1⟩
  have hB9 := hB0.trans (hb1.mono hB0.size)
  have hmD : plKeysV.Has W9 mb L := has_below hm hB9
  have hokD : PlOk W9 (plOf a m) := hok.below hB9
  have hoksD : ∀ q ∈ L, PlOk W9 q.1 := fun q hq => (hoks q hq).below hB9
  have hg9 : W.grownBy W9 (some mb) := ⟨hB9.os, hB9.tape, hB9.output, hB9.size, fun k hk _ => hB9.block k hk⟩
  clear hm hok hoks hB9 hb1 hB0
  have hl0 := plKeysV.look (mty := 129) (et := 3) Try.underlying129 (plOf a m) hokD hoksD hmD.is (hz W9)
  rw [hg0] at hl0
  have hlook : (Instr.lookup 129 (.map (some mb)) (.agg #[.pointer (plOf a m).1, .int .i64 (plOf a m).2]) false).run Try.prog W9 = .ok (.int .i64 n0) W9 := hl0
  obtain ⟨wm, st, hent0, hstp, hgr, hszm⟩ := plKeysV.entry (mty := 129) (et := 3) Try.underlying129 (plOf a m) hokD hoksD hmD (z := .int .i64 0) (hz _)
  rw [hg0] at hent0 hstp
  have hent : (Instr.mapEntry 129 (.map (some mb)) (.agg #[.pointer (plOf a m).1, .int .i64 (plOf a m).2])).run Try.prog W9 = .ok (.tuple #[.int .i64 n0, .int .i64 (st : Nat)]) wm := hent0
  have hkm : PlOk wm (plOf a m) := hokD.grownH hgr hmD
  have hksm : ∀ q ∈ putL (plOf a m) (.int .i64 n0) L, PlOk wm q.1 := fun q hq => by
    rcases putL_keys (plOf a m) _ L q hq with e | hq
    · rw [e]; exact hkm
    · exact (hoksD q hq).grownH hgr hmD
  have hk0 := plKeysV.look (mty := 129) (et := 3) Try.underlying129 (plOf a m) hkm hksm (stamp_isP hstp) (hz wm)
  rw [getL_put, if_pos rfl] at hk0
  have hlookm : (Instr.lookup 129 (.map (some mb)) (.agg #[.pointer (plOf a m).1, .int .i64 (plOf a m).2]) false).run Try.prog wm = .ok (.int .i64 n0) wm := hk0
  obtain ⟨ws, hsto, hmS, hgrs, hszs⟩ := plKeysV.store (mty := 129) hstp (.int .i64 ((n0 : Int) + 1))
  rw [putL_putL] at hmS
  have HG : Hid (W.grownBy ws (some mb)) := grown_trans hg9 (grown_trans hgr hgrs)
  have HMS : Hid (plKeysV.Has ws mb (putL (plOf a m) (.int .i64 ((n0 : Int) + 1)) L)) := hmS
  clear hl0 hent0 hk0 hstp hkm hksm hmS hg9 hgr hgrs hszm hszs hokD hoksD hmD hz hg0
  go_wp2_with fail
  refine hK.out _ _ trivial (fun hHeld => ?_)
  clear hK K
  unfold plV
  refine wpAnyH_ready (rs := [3, 5]) (by kernel_rfl) (by simp) ?_
  refine AllReadyH.cons rfl (fun K hK => ?_) (AllReadyH.cons rfl (fun K hK => ?_) AllReadyH.nil)
  · go_simp
    refine hK.out _ _ trivial (fun hHeld2 => ?_)
    clear hK K
    refine wpAnyH_take (i := 4) (v := .int .i64 ((n0 : Int) + 1)) rfl (by kernel_rfl) (by kernel_rfl) (by kernel_rfl) (fun _ _ _ h => hp _ _ _ _ _ h) (Or.inl ⟨by rfl, ?_⟩) (by trivial) ?_
    · intro w hSw
      (go_simp; rw [IntKind.wrap_i64]; omega)
    (try simp only [Act.put, List.getElem_toArray, List.getElem_cons_zero, List.getElem_cons_succ, List.setIfInBounds_toArray, List.set_cons_zero, List.set_cons_succ])
    refine wpAnyH_ready (rs := [5]) (by kernel_rfl) (by simp) ?_
    refine AllReadyH.cons rfl (fun K hK => ?_) AllReadyH.nil
    go_simp
    refine hK.out _ _ trivial (fun hHeld3 => ?_)
    clear hK K
    refine wpAnyH_take (i := 6) (v := .int .i64 (st : Nat)) rfl (by kernel_rfl) (by kernel_rfl) (by kernel_rfl) (fun _ _ _ h => hp _ _ _ _ _ h) (Or.inl ⟨by rfl, ?_⟩) (by trivial) ?_
    · intro w hSw
      go_simp
    (try simp only [Act.put, List.getElem_toArray, List.getElem_cons_zero, List.getElem_cons_succ, List.setIfInBounds_toArray, List.set_cons_zero, List.set_cons_succ])
    refine wpAnyH_ready (rs := [7]) (by kernel_rfl) (by simp) ?_
    refine AllReadyH.cons rfl (fun K hK => ?_) AllReadyH.nil
    go_simp
    refine hK.out _ _ trivial (fun hHeld4 => ?_)
    clear hK K
    refine wpAnyH_done (by kernel_rfl) ?_ _
    exact h _ _ _ _ _ _ _ _ HMS.out HG.out
  · go_simp
    refine hK.out _ _ trivial (fun hHeld2 => ?_)
    clear hK K
    refine wpAnyH_take (i := 6) (v := .int .i64 (st : Nat)) rfl (by kernel_rfl) (by kernel_rfl) (by kernel_rfl) (fun _ _ _ h => hp _ _ _ _ _ h) (Or.inl ⟨by rfl, ?_⟩) (by trivial) ?_
    · intro w hSw
      go_simp
    (try simp only [Act.put, List.getElem_toArray, List.getElem_cons_zero, List.getElem_cons_succ, List.setIfInBounds_toArray, List.set_cons_zero, List.set_cons_succ])
    refine wpAnyH_ready (rs := [3]) (by kernel_rfl) (by simp) ?_
    refine AllReadyH.cons rfl (fun K hK => ?_) AllReadyH.nil
    go_simp
    refine hK.out _ _ trivial (fun hHeld3 => ?_)
    clear hK K
    refine wpAnyH_take (i := 4) (v := .int .i64 ((n0 : Int) + 1)) rfl (by kernel_rfl) (by kernel_rfl) (by kernel_rfl) (fun _ _ _ h => hp _ _ _ _ _ h) (Or.inl ⟨by rfl, ?_⟩) (by trivial) ?_
    · intro w hSw
      (go_simp; rw [IntKind.wrap_i64]; omega)
    (try simp only [Act.put, List.getElem_toArray, List.getElem_cons_zero, List.getElem_cons_succ, List.setIfInBounds_toArray, List.set_cons_zero, List.set_cons_succ])
    refine wpAnyH_ready (rs := [7]) (by kernel_rfl) (by simp) ?_
    refine AllReadyH.cons rfl (fun K hK => ?_) AllReadyH.nil
    go_simp
    refine hK.out _ _ trivial (fun hHeld4 => ?_)
    clear hK K
    refine wpAnyH_done (by kernel_rfl) ?_ _
    exact h _ _ _ _ _ _ _ _ HMS.out HG.out
end Go.Proofs.Ytafhpplhlmlfhaa
/- All lists in a value, by the program: the region that puts lists behind what is to be done; worlds that look the same below. -/
namespace Go.Proofs.Ytafhpplhlmlfhaa
open Go.RowKit
theorem wpList_append_two {P : Program} {w : World} {ops : Array Oper} {rest : List Oper} {o : Oper} {a : Act} {Q : Exit → Act → World → Prop} (hgd : o.guard = none) (s x : Operand) (t : TypeId)
    (ho : o.op = .call { callee := .builtin .append, args := #[s, x], argTypes := #[t, t] })
    (base base2 : Nat) (e : TypeId) (i : TypeInfo) (z : Value) (size bytes : Nat) (ht : P.underlying t = some (.slice e)) (hi : P.info? e = some i) (hz : i.zero = some z)
    (hsize : i.size = size) (hby : i.bytes = bytes) (hzs : z.cells.size = size) (hsz : 0 < size)
    (v : Value) (n : Nat) (xs : List Value) (hs : a.eval s = v) (hown : w.ownsRow base e size v n xs) (v2 : Value) (m : Nat) (ys : List Value) (hx : a.eval x = v2) (hown2 : w.ownsRow base2 e size v2 m ys)
    (h1 : ∀ u ∈ ys, u.oneCell' = true) (h63 : n + m ≤ maxLen) (hbytes : (n + m) * bytes ≤ 140737488355328) (hbase : base ≤ w.heap.size)
    (h : ∀ v' w', w'.ownsRow base e size v' (n + m) (xs ++ ys) → w.grownBy w' v.ownBlock → wpList P ops Q rest (a.put o.dst v') w') : wpList P ops Q (o :: rest) a w :=
  wpList_plain hgd fun _ hK => wp_append_two w s x t ho base base2 e i z size bytes ht hi hz hsize hby hzs hsz v n xs hs hown v2 m ys hx hown2 h1 h63 hbytes hbase fun v' w' h2 h3 => hK _ _ (h v' w' h2 h3)
theorem SFrom_heap {w w' : World} (h : w'.heap = w.heap) : ∀ (ss : List ByteArray) (b o : Nat), SFrom w ss b o → SFrom w' ss b o := by
  have hc : ∀ p, w'.cell? p = w.cell? p := fun p => by unfold World.cell?; rw [h]
  intro ss
  induction ss with
  | nil => intro b o _; trivial
  | cons s t ih => rintro b o ⟨h1, h2, h3⟩; exact ⟨(hc _).trans h1, h2, ih _ _ h3⟩
theorem From_heap {w w' : World} (h : w'.heap = w.heap) : ∀ (F : Vo) (b o : Nat), F.From w b o → F.From w' b o := by
  have hc : ∀ p, w'.cell? p = w.cell? p := fun p => by unfold World.cell?; rw [h]
  intro F
  induction F with
  | nil => intro b o _; trivial
  | cons hd a c kids next ih1 ih2 =>
    rintro b o ⟨h1, hk, hl, ⟨hs, hh⟩, hn⟩
    refine ⟨h1.mono fun o' u hu => (hc _).trans hu, ?_, hl, ⟨?_, hh⟩, ih2 _ _ hn⟩
    · rcases hk with hk | ⟨b', o', e1, e2⟩
      · exact .inl hk
      · exact .inr ⟨b', o', e1, ih1 _ _ e2⟩
    · rcases hs with hs | ⟨b', o', e1, e2⟩
      · exact .inl hs
      · exact .inr ⟨b', o', e1, SFrom_heap h _ _ _ e2⟩
theorem PlOk.heap {w w' : World} (h : w'.heap = w.heap) {p : Pl} (k : PlOk w p) : PlOk w' p := by
  rcases k with k | ⟨a, cs, t, h1, h2⟩
  · exact .inl k
  · exact .inr ⟨a, cs, t, h1, by rw [h]; exact h2⟩
theorem Cl_heap {w w' : World} (h : w'.heap = w.heap) : ∀ (F : Vo), F.Cl w → F.Cl w' := by
  intro F
  induction F with
  | nil => intro _; trivial
  | cons hd a c kids next ih1 ih2 => rintro ⟨h1, h2, h3⟩; exact ⟨h1.heap h, ih1 h2, ih2 h3⟩
theorem Li.Ok.heap {w w' : World} (h : w'.heap = w.heap) {x : Li} (k : x.Ok w) : x.Ok w' := by
  obtain ⟨h1, h2, h3, h4⟩ := k
  refine ⟨?_, h2.heap h, Cl_heap h _ h3, h4⟩
  rcases h1 with h1 | ⟨b, o, e1, e2⟩
  · exact .inl h1
  · exact .inr ⟨b, o, e1, From_heap h _ _ _ e2⟩
/-- the blocks that w0 has are there, as they were -/
def Sees (w0 w : World) : Prop := w0.heap.size ≤ w.heap.size ∧ ∀ j, j < w0.heap.size → w.heap[j]? = w0.heap[j]?
def asIn (w0 w : World) : World := { w with heap := w0.heap }
theorem Sees.below {w0 w : World} (h : Sees w0 w) : Below (asIn w0 w).heap.size (asIn w0 w) w := ⟨rfl, rfl, rfl, h.1, h.2⟩
theorem Sees.grow {w0 w w' : World} (h : Sees w0 w) {B : Nat} (hB : w0.heap.size ≤ B) (hb : Below B w w') : Sees w0 w' := ⟨Nat.le_trans h.1 hb.size, fun j hj => (hb.block j (by omega)).trans (h.2 j hj)⟩
theorem Sees.plOk {w0 w : World} (h : Sees w0 w) {p : Pl} (k : PlOk w0 p) : PlOk w p := (PlOk.heap (w' := asIn w0 w) rfl k).below h.below
theorem unm_asIn (w0 w : World) (M : Pl → Nat) (x : Li) : ∀ n, (liSys (asIn w0 w)).unm M x n = (liSys w0).unm M x n := by
  intro n
  induction n with
  | zero => rfl
  | succ n ih => show (liSys (asIn w0 w)).unm M x n ++ _ = (liSys w0).unm M x n ++ _; rw [ih]
theorem unmet_sees (x : Li) (M : Pl → Nat) (L : List (Pl × Value)) (mb : Nat) (w0 w : World) (hok : x.Ok w0) (hw : Sees w0 w) (hm : plKeysV.Has w mb L) (hC : Counts L M) (hks : ∀ q ∈ L, PlOk w0 q.1) :
    Calls Try.prog 82 #[x.v, .map (some mb)] w fun r w' => (∃ v, r = .returned v ∧ w'.ownsRow w.heap.size 25 1 v ((liSys w0).unm M x x.F.len).length (((liSys w0).unm M x x.F.len).map Li.v)) ∧ Below w.heap.size w w' := by
  have h4 := hok.2.2.2
  have hl := x.F.len_le
  have h := unmet_any x M L mb (asIn w0 w) w (Li.Ok.heap (w := w0) (w' := asIn w0 w) rfl hok) hw.below (by omega) hm hC (fun q hq => PlOk.heap (w := w0) (w' := asIn w0 w) rfl (hks q hq)) (fun i hi => by have h1 := (Li.ok_kid hok hi).2.2.2; have h2 := (x.F.kidsAt i).len_le; have h3 : (x.F.kidsAt i).size ≤ 1100000 := h1; omega)
  rw [unm_asIn] at h
  exact h
theorem unm_length (w0 : World) (M : Pl → Nat) (x : Li) : ∀ j, ((liSys w0).unm M x j).length ≤ j := fun j => by
  induction j with
  | zero => exact Nat.le_refl _
  | succ j ih => show ((liSys w0).unm M x j ++ _).length ≤ j + 1; rw [List.length_append]; split <;> simp <;> omega
theorem lv_one (S : List Li) : ∀ u ∈ S.map Li.v, u.oneCell' = true := fun u hu => by
  obtain ⟨y, _, rfl⟩ := List.mem_map.1 hu
  rfl
theorem rowL_last {w : World} {base g cap : Nat} {S : List Li} {y : Li} (h : w.ownsRow base 25 1 (.slice (some ⟨g, 0, none⟩) (S.length + 1) cap) (S.length + 1) ((S ++ [y]).map Li.v)) : w.cell? ⟨g, S.length, none⟩ = some y.v := by
  rw [h.cellAt S.length (by omega), List.map_append, List.getElem?_append_right (by simp)]
  simp
theorem rowL_pop {w : World} {base g cap : Nat} {S : List Li} {y : Li} (h : w.ownsRow base 25 1 (.slice (some ⟨g, 0, none⟩) (S.length + 1) cap) (S.length + 1) ((S ++ [y]).map Li.v)) :
    w.ownsRow base 25 1 (.slice (some ⟨g, 0, none⟩) S.length cap) S.length (S.map Li.v) := by
  refine ⟨by simp, ?_⟩
  rcases h.2 with ⟨h', _⟩ | ⟨g', cap', cur, h', h2, h3, h4, h5, h6, h7⟩
  · cases h'
  · simp only [Value.slice.injEq, Option.some.injEq, Addr.mk.injEq, and_true, true_and] at h'
    obtain ⟨rfl, rfl⟩ := h'
    refine .inr ⟨g, cap, cur, rfl, h2, h3, by omega, h5, h6, ?_⟩
    have h8 : (cur.toList.take ((S.length + 1) * 1)).take (S.length * 1) = S.map Li.v := by
      have e : S.length * 1 = (S.map Li.v).length := by simp
      rw [h7, List.map_append, e, List.take_left]
    rw [List.take_take, Nat.min_eq_left (by omega)] at h8
    exact h8
theorem rowL_ne {w : World} {base g n cap mb : Nat} {e : TypeId} {xs : List Value} {L : List (Pl × Value)} (h : w.ownsRow base e 1 (.slice (some ⟨g, 0, none⟩) n cap) n xs) (hm : plKeysV.Has w mb L) : g ≠ mb := by
  intro e'
  obtain ⟨es, clock, hh, _⟩ := hm
  rcases h.2 with ⟨h', _⟩ | ⟨g', cap', cur, h', _, hg, _⟩
  · cases h'
  · simp only [Value.slice.injEq, Option.some.injEq, Addr.mk.injEq, and_true, true_and] at h'
    obtain ⟨rfl, rfl⟩ := h'
    rw [e', hh] at hg
    cases hg
end Go.Proofs.Ytafhpplhlmlfhaa
/- All lists in a value, by the program: the iterator. -/
namespace Go.Proofs.Ytafhpplhlmlfhaa
open Go.RowKit Go.Shelf
attribute [local go_sem] Oper.semAt_some
theorem wpListIn_append_two {F : Fence} {n : Nat} {P : Program} (w : World) {ops : Array Oper} {rest : List Oper} {o : Oper} {a : Act} {Q : Exit → Act → World → Prop} (hg : o.guard = none) (s x : Operand) (t : TypeId)
    (hop : o.op = Op.call { callee := Callee.builtin Builtin.append, args := #[s, x], argTypes := #[t, t] })
    (base base2 : Nat) (e : TypeId) (i : TypeInfo) (z : Value) (size bytes : Nat) (ht : P.underlying t = some (.slice e)) (hi : P.info? e = some i) (hz : i.zero = some z)
    (hsize : i.size = size) (hby : i.bytes = bytes) (hzs : z.cells.size = size) (hsz : 0 < size)
    (v : Value) (k : Nat) (xs : List Value) (hs : a.eval s = v) (hown : w.ownsRow base e size v k xs) (v2 : Value) (m : Nat) (ys : List Value) (hx : a.eval x = v2) (hown2 : w.ownsRow base2 e size v2 m ys)
    (h1 : ∀ u ∈ ys, u.oneCell' = true) (h63 : k + m ≤ maxLen) (hbytes : (k + m) * bytes ≤ 140737488355328) (hbase : base ≤ w.heap.size)
    (hK : ∀ v' w', w'.ownsRow base e size v' (k + m) (xs ++ ys) → w.grownBy w' v.ownBlock → wpListIn F n P ops Q rest (a.put o.dst v') w') : wpListIn F n P ops Q (o :: rest) a w := by
  refine wpListIn_plain hg fun K hK' => ?_
  obtain ⟨v', w', hrun, r1, r2⟩ := append_two (P := P) w base base2 t o.type e i z size bytes ht hi hz hsize hby hzs hsz v k xs hown v2 m ys hown2 h1 h63 hbytes hbase
  unfold Oper.wpIn
  refine ⟨?_, ?_⟩
  · simp [Oper.about, hop, resolve, Target.leads, Sem.run_pure]
  · rw [Oper.semAt_plain F _ _ (by rw [hop]; intro c hc'; cases hc')]
    simp [execOp, hop, resolve, invoke, builtin, hs, hx, hrun, Result.andThen]
    exact hK' _ _ (hK v' w' r1 r2)
/-- what the iterator keeps: so much is to be done yet -/
def LInv (w0 : World) (B : Nat) (top : Li) (J : List Li → World → Prop) (mb : Nat) (v : Value) (wr : World) (k : Nat) : Prop :=
  ∃ (S : List Li) (M : Pl → Nat) (L : List (Pl × Value)) (pre : List Li), Inv (liSys w0) top S M pre ∧ Counts L M ∧ (∀ q ∈ L, PlOk w0 q.1) ∧ wr.ownsRow B 25 1 v S.length (S.map Li.v) ∧ plKeysV.Has wr mb L ∧ J pre wr ∧ Sees w0 wr ∧ B ≤ wr.heap.size ∧ (∀ p, M p + k ≤ 2 * (top.F.size + 1)) ∧ (liSys w0).cost M S = k
/-- what it promises of each list that it tells: it lies there, and what stands right below was told -/
def Told (w0 : World) (pre : List Li) (x : Li) : Prop := x.Ok w0 ∧ ∀ i, i < x.F.len → ∃ y ∈ pre, y.pl = (x.kid i).pl
def All (w0 : World) (top : Li) (xs : List Li) : Prop := (∀ y ∈ xs, y.Ok w0) ∧ ∃ y ∈ xs, y.pl = top.pl
theorem li_len {w : World} {x : Li} (h : x.Ok w) : x.F.len ≤ 2000000 := by have h1 := h.2.2.2; have h2 := x.F.len_le; omega
theorem bump_le1 (M : Pl → Nat) (p q : Pl) : bump M p q ≤ M q + 1 := by
  by_cases e : q = p
  · subst e; rw [bump_same]; omega
  · rw [bump_other e]; omega
theorem rowL_keeps {w w' : World} {base g n cap : Nat} {e : TypeId} {xs : List Value} (h : w.ownsRow base e 1 (.slice (some ⟨g, 0, none⟩) n cap) n xs) (hb : base ≤ g) (hk : g < w.heap.size → w'.heap[g]? = w.heap[g]?) : w'.ownsRow base e 1 (.slice (some ⟨g, 0, none⟩) n cap) n xs := by
  refine ⟨h.1, ?_⟩
  rcases h.2 with ⟨h', _⟩ | ⟨g', cap', cur, h', h2, h3, h4⟩
  · cases h'
  · simp only [Value.slice.injEq, Option.some.injEq, Addr.mk.injEq, and_true, true_and] at h'
    obtain ⟨rfl, rfl⟩ := h'
    exact .inr ⟨g, cap, cur, rfl, hb, (hk (Array.getElem?_eq_some_iff.1 h3).1).trans h3, h4⟩
set_option maxRecDepth 100000 in
set_option maxHeartbeats 4000000 in
theorem lists_low (w0 : World) (n bx : Nat) (hd : Hd) (top : Li) (w : World) (htop : top.Ok w0) (hw : Sees w0 w)
    (c0 : w.cell? ⟨bx, 0, none⟩ = some (.int .i64 hd.k)) (c1 : w.cell? ⟨bx, 1, none⟩ = some (.int .i64 hd.m)) (c2 : w.cell? ⟨bx, 2, none⟩ = some (.int .i64 hd.e)) (c3 : w.cell? ⟨bx, 3, none⟩ = some (.string hd.t)) (c4 : w.cell? ⟨bx, 4, none⟩ = some (.slice top.a top.F.len top.c)) (c5 : w.cell? ⟨bx, 5, none⟩ = some (.slice hd.na hd.ns.length hd.nc)) :
    SeqLow n Try.prog 81 #[.pointer (some ⟨bx, 0, none⟩)] (fun x : Li => #[.slice x.a x.F.len x.c]) w0.heap.size (Told w0) (All w0 top) w := fun l J W hW hJ hY h0 => by
  have hmm : ∀ W, (Instr.makeMap 129 none).run Try.prog W = .ok (.map (some W.heap.size)) (W.alloc (.map #[] 0)) := fun W => run_makeMap _ _
  have hmeth := belowV_method
  obtain ⟨i0, hi, hz0, hz1, hz2⟩ := info_parts listsInfo
  have hB := World.block_lt_of_cell? w _ c0
  have C0 := (hW.cell (p := ⟨bx, 0, none⟩) hB).trans c0
  have C1 := (hW.cell (p := ⟨bx, 1, none⟩) hB).trans c1
  have C2 := (hW.cell (p := ⟨bx, 2, none⟩) hB).trans c2
  have C3 := (hW.cell (p := ⟨bx, 3, none⟩) hB).trans c3
  have C4 := (hW.cell (p := ⟨bx, 4, none⟩) hB).trans c4
  have C5 := (hW.cell (p := ⟨bx, 5, none⟩) hB).trans c5
  have hWs : Sees w0 W := hw.grow hw.1 hW
  have hsz := hWs.1
  have HY : Hid (∀ pre x W1, J pre W1 → Told w0 pre x → W.heap.size ≤ W1.heap.size → YieldAt Fence.wide (n - 1) Try.prog l #[.slice x.a x.F.len x.c] W1 fun e W' => e = .returned (.bool true) ∧ J (pre ++ [x]) W' ∧ Keeps2 w0.heap.size W.heap.size W1 W') := hY
  have HJ : Hid (Low W.heap.size J) := hJ
  have HT : Hid (top.Ok w0) := htop
  have HS0 : Hid (Sees w0 W) := hWs
  have H0 : Hid (J [] W) := h0
  have hxx : bx < W.heap.size := Nat.lt_of_lt_of_le hB hW.size
  clear c0 c1 c2 c3 c4 c5 hY hJ htop hw hW h0 hWs
  have D0 := (Below.cell ((Below.refl W.heap.size W).alloc (Nat.le_refl _) (.map #[] 0)) (p := ⟨bx, 0, none⟩) hxx).trans C0
  have D1 := (Below.cell ((Below.refl W.heap.size W).alloc (Nat.le_refl _) (.map #[] 0)) (p := ⟨bx, 1, none⟩) hxx).trans C1
  have D2 := (Below.cell ((Below.refl W.heap.size W).alloc (Nat.le_refl _) (.map #[] 0)) (p := ⟨bx, 2, none⟩) hxx).trans C2
  have D3 := (Below.cell ((Below.refl W.heap.size W).alloc (Nat.le_refl _) (.map #[] 0)) (p := ⟨bx, 3, none⟩) hxx).trans C3
  have D4 := (Below.cell ((Below.refl W.heap.size W).alloc (Nat.le_refl _) (.map #[] 0)) (p := ⟨bx, 4, none⟩) hxx).trans C4
  have D5 := (Below.cell ((Below.refl W.heap.size W).alloc (Nat.le_refl _) (.map #[] 0)) (p := ⟨bx, 5, none⟩) hxx).trans C5
  clear C0 C1 C2 C3 C4 C5
  refine callsIn_of_wp Try.func81 rfl trivial ?_ rfl
  simp only [Try.ntmps81, List.size_toArray, List.length_cons, List.length_nil, Nat.reduceAdd, Nat.reduceSub, Array.replicate_succ, Array.replicate_zero, List.push_toArray, List.append_toArray, List.nil_append, List.cons_append]
  gi_wp2
  refine ⟨trivial, fun h => (by cases h), (callsIn_wide.2 (belowV_any hd top.a top.F.len top.c _)).mono ?_⟩
  rintro r W1 ⟨rfl, hb1⟩
  clear D0 D1 D2 D3 D4 D5
  have hbA : Below W.heap.size W W1 := ((Below.refl W.heap.size W).alloc (Nat.le_refl _) (.map #[] 0)).trans (hb1.mono (by simp))
  have hmap1 : plKeysV.Has W1 W.heap.size [] := plKeysV.has_new _ _ ((hb1.block _ (by simp)).trans (heap_alloc_new _ _))
  have hml : W.heap.size < W1.heap.size := has_lt hmap1
  clear hb1
  gi_wp2
  gi_loopw [4] (fun v wr => ∃ n, LInv w0 W.heap.size top J W.heap.size v wr n) (fun v wr => least (LInv w0 W.heap.size top J W.heap.size v wr))
  case atStart =>
    have hbB : Below W.heap.size W (W1.alloc (.cells #[.slice top.a top.F.len top.c] 25)) := hbA.alloc hbA.size _
    refine ⟨_, [top], fun _ => 0, [], [], Inv.start _ HT.out, counts_zero, fun q hq => absurd hq List.not_mem_nil, ?_, ?_, HJ.out _ _ _ H0.out hbB, HS0.out.grow hsz hbB, hbB.size, fun p => ?_, rfl⟩
    · exact World.ownsRow_lit (base := W.heap.size) (e := 25) (size := 1) W1 #[.slice top.a top.F.len top.c] 1 hbA.size (by unfold maxLen; omega) rfl
    · exact hmap1.same _ (Below.heap_alloc _ _ _ hml)
    · show 0 + ((if (0 : Nat) = 0 then 2 * (top.F.size + 1) else 1) + 0) ≤ _
      simp
  case round =>
    have hM := least_spec hrel
    have HMu : Hid (∀ v' wr' n', LInv w0 W.heap.size top J W.heap.size v' wr' n' → n' < least (LInv w0 W.heap.size top J W.heap.size u4 wr) → least (LInv w0 W.heap.size top J W.heap.size v' wr') < least (LInv w0 W.heap.size top J W.heap.size u4 wr)) := fun v' wr' n' h1 h2 => Nat.lt_of_le_of_lt (least_le h1) h2
    obtain ⟨S, M, L, pre, hI, hC, hks, hown, hmap, hJp, hse, hBs, hMk, hcost⟩ := hM
    have HI : Hid (Inv (liSys w0) top S M pre) := hI
    have HC : Hid (Counts L M) := hC
    have HKs : Hid (∀ q ∈ L, PlOk w0 q.1) := hks
    have HP : Hid (J pre wr) := hJp
    have HMk : Hid (∀ p, M p + least (LInv w0 W.heap.size top J W.heap.size u4 wr) ≤ 2 * (top.F.size + 1)) := hMk
    have HCo : Hid ((liSys w0).cost M S = least (LInv w0 W.heap.size top J W.heap.size u4 wr)) := hcost
    clear hI hC hks hJp hMk hcost hrel
    rcases List.eq_nil_or_concat S with rfl | ⟨S, y, rfl⟩
    · have HR : Hid (All w0 top pre) := ⟨HI.out.okp, HI.out.done _⟩
      rcases hown.2 with ⟨rfl, _⟩ | ⟨g, cap, cur, rfl, _⟩
      · gi_wp2
        go_end0
        exact ⟨⟨_, rfl⟩, pre, HR.out, HP.out⟩
      · gi_wp2
        go_end0
        exact ⟨⟨_, rfl⟩, pre, HR.out, HP.out⟩
    · rw [List.concat_eq_append] at HI HCo hown
      rw [List.length_append, List.length_singleton] at hown
      obtain ⟨g, cap, rfl, hg1, hg2⟩ := hown.form (by omega)
      have hpop := rowL_pop hown
      have q0 : wr.cell? ⟨g, S.length, none⟩ = some (.slice y.a y.F.len y.c) := rowL_last hown
      have hyok : y.Ok w0 := HI.out.oks y (by simp)
      have hts : top.F.size ≤ 1100000 := HT.out.2.2.2
      have hlen : S.length ≤ 2300000 := by
        have h1 := HMk.out (none, 0)
        have h2 := (liSys w0).cost_length M (S ++ [y])
        rw [List.length_append, List.length_singleton, HCo.out] at h2
        omega
      have hcap : (S.length : Int) ≤ (cap : Int) ∧ cap ≤ maxLen := by
        rcases hown.2 with ⟨h', _⟩ | ⟨g', cap', cur, h', h2, h3, h4, h5, h6, h7⟩
        · cases h'
        · simp only [Value.slice.injEq, Option.some.injEq, Addr.mk.injEq, and_true, true_and] at h'
          obtain ⟨rfl, rfl⟩ := h'
          exact ⟨by omega, h5⟩
      obtain ⟨hcap1, hcap2⟩ := hcap
      unfold maxLen at hcap2
      have hgne := rowL_ne hown hmap
      have hfull := hown
      have hyl := li_len hyok
      have hya := len_or' hyok.1
      have hn0 : M y.pl ≤ 100000000 := by have := HMk.out y.pl; omega
      have hge := counts_get HC.out y.pl
      clear hown
      obtain ⟨n9, hn⟩ : ∃ n9, S.length = n9 := ⟨_, rfl⟩
      have HSn : Hid (S.length = n9) := hn
      rw [hn] at HMu HMk HCo q0 hlen hcap1 hpop hfull ⊢
      clear hn
      have hn1 : (0 : Int) < (n9 : Int) + 1 := by omega
      have HYo : Hid (y.Ok w0) := hyok
      have HPop : Hid (wr.ownsRow W.heap.size 25 1 (.slice (some ⟨g, 0, none⟩) n9 cap) n9 (S.map Li.v)) := hpop
      have HMap : Hid (plKeysV.Has wr W.heap.size L) := hmap
      have HFull : Hid (wr.ownsRow W.heap.size 25 1 (.slice (some ⟨g, 0, none⟩) (n9 + 1) cap) (n9 + 1) ((S ++ [y]).map Li.v)) := hfull
      clear hyok hpop hmap hfull
      gi_wp2
      refine wpIn_wide.2 (ls4 HMap.out (hse.plOk HYo.out.2.1) (fun q hq => hse.plOk (HKs.out q hq)) hge hn0 hya hyl (fun _ d _ _ _ h => by cases d <;> exact h) ?_)
      intro ws v20 v21 v22 v23 v24 v25 v26 hmS hgr
      have hbS : Below W.heap.size wr ws := (Below.refl _ wr).grown hgr hBs (fun k hk => by have := Option.some.inj hk; omega)
      have HCS : Hid (Counts (putL (plOf y.a y.F.len) (.int .i64 ((M y.pl : Int) + 1)) L) (bump M y.pl)) := counts_put HC.out y.pl
      have HKS : Hid (∀ q ∈ putL (plOf y.a y.F.len) (.int .i64 ((M y.pl : Int) + 1)) L, PlOk w0 q.1) := fun q hq => by
        rcases putL_keys _ _ L q hq with e | hq
        · rw [e]; exact HYo.out.2.1
        · exact HKs.out q hq
      have HRS : Hid (ws.ownsRow W.heap.size 25 1 (.slice (some ⟨g, 0, none⟩) n9 cap) n9 (S.map Li.v)) := HPop.out.kept hgr (.inr (fun e => hgne (Option.some.inj e)))
      have HFS : Hid (ws.ownsRow W.heap.size 25 1 (.slice (some ⟨g, 0, none⟩) (n9 + 1) cap) (n9 + 1) ((S ++ [y]).map Li.v)) := HFull.out.kept hgr (.inr (fun e => hgne (Option.some.inj e)))
      have HMS : Hid (plKeysV.Has ws W.heap.size (putL (plOf y.a y.F.len) (.int .i64 ((M y.pl : Int) + 1)) L)) := hmS
      have HW : Hid (∀ w', Below ws.heap.size ws w' → Below W.heap.size wr w' ∧ w'.ownsRow W.heap.size 25 1 (.slice (some ⟨g, 0, none⟩) n9 cap) n9 (S.map Li.v) ∧ w'.ownsRow W.heap.size 25 1 (.slice (some ⟨g, 0, none⟩) (n9 + 1) cap) (n9 + 1) ((S ++ [y]).map Li.v) ∧ plKeysV.Has w' W.heap.size (putL (plOf y.a y.F.len) (.int .i64 ((M y.pl : Int) + 1)) L) ∧ J pre w' ∧ Sees w0 w' ∧ W.heap.size ≤ w'.heap.size ∧
          (Instr.lookup 129 (.map (some W.heap.size)) (.agg #[.pointer (plOf y.a y.F.len).1, .int .i64 (plOf y.a y.F.len).2]) false).run Try.prog w' = .ok (.int .i64 ((M y.pl : Int) + 1)) w') := fun w' hb => by
        have hbW := hbS.trans (hb.mono (Nat.le_trans hBs hbS.size))
        have hm' := has_below HMS.out hb
        have hs' := hse.grow hsz hbW
        have hz : (zeroValue 3).run Try.prog w' = .ok (.int .i64 0) w' := by kernel_rfl
        have hl := plKeysV.look (mty := 129) (et := 3) Try.underlying129 (plOf y.a y.F.len) (hs'.plOk HYo.out.2.1) (fun q hq => hs'.plOk (HKS.out q hq)) hm'.is hz
        rw [getL_put, if_pos rfl] at hl
        exact ⟨hbW, HRS.out.kept (row := none) ⟨hb.os, hb.tape, hb.output, hb.size, fun k hk _ => hb.block k hk⟩ (ob_or' _), HFS.out.kept (row := none) ⟨hb.os, hb.tape, hb.output, hb.size, fun k hk _ => hb.block k hk⟩ (ob_or' _), hm', HJ.out _ _ _ HP.out hbW, hs', Nat.le_trans hBs hbW.size, hl⟩
      clear hmS hgr hge hse
      gi_wp2
      refine ⟨trivial, fun h => (by cases h), (callsIn_wide.2 (placeOfV_any y.a y.F.len y.c _ hya hyl)).mono ?_⟩
      rintro r w5 ⟨rfl, hb5⟩
      obtain ⟨hb5w, -, hf5, hm5, hj5, hs5, hz5, hlook⟩ := HW.out _ hb5
      unfold plV
      by_cases hM0 : M y.pl = 0
      · have hlook' : (Instr.lookup 129 (.map (some W.heap.size)) (.agg #[.pointer (plOf y.a y.F.len).1, .int .i64 (plOf y.a y.F.len).2]) false).run Try.prog w5 = .ok (.int .i64 1) w5 := by rw [hM0] at hlook; exact hlook
        have HF5 : Hid (w5.ownsRow W.heap.size 25 1 (.slice (some ⟨g, 0, none⟩) (n9 + 1) cap) (n9 + 1) ((S ++ [y]).map Li.v)) := hf5
        have HM5 : Hid (plKeysV.Has w5 W.heap.size (putL (plOf y.a y.F.len) (.int .i64 ((M y.pl : Int) + 1)) L)) := hm5
        clear hlook hf5 hm5
        gi_wp2
        refine ⟨trivial, fun h => (by cases h), (callsIn_wide.2 (unmet_sees y (bump M y.pl) _ W.heap.size w0 w5 HYo.out hs5 HM5.out HCS.out HKS.out)).mono ?_⟩
        rintro r w55 ⟨⟨v9, rfl, hown9⟩, hb55⟩
        have hf55 := HF5.out.kept (row := none) ⟨hb55.os, hb55.tape, hb55.output, hb55.size, fun k hk _ => hb55.block k hk⟩ (ob_or' _)
        have hul := unm_length w0 (bump M y.pl) y y.F.len
        have hb5a := hb5w.trans (hb55.mono (Nat.le_trans hBs hb5w.size))
        have hz55 := Nat.le_trans hz5 hb55.size
        clear HF5 hlook'
        gi_wp2_with (gi_at_builtin; refine wpListIn_append_two _ rfl _ _ 130 rfl W.heap.size w5.heap.size 25 i0 (.slice none 0 0) 1 24 Try.underlying130 hi hz0 hz1 hz2 rfl (by decide) _ (n9 + 1) _ rfl hf55 v9 _ _ rfl hown9 (lv_one _) (by unfold maxLen; omega) (by omega) hz55 ?_; intro v6 w6 hr6 hgr6)
        have hb56 : Below W.heap.size w5 w6 := (hb55.mono hz5).grown hgr6 hz55 (fun k hk => by have : g = k := Option.some.inj hk; omega)
        have hm6 := (has_below HM5.out hb55).same _ (hgr6.block W.heap.size (Nat.lt_of_lt_of_le (has_lt HM5.out) hb55.size) (fun e => hgne (Option.some.inj e).symm))
        have hco := (liSys w0).cost_open M S y hM0 (li_sum w0 y)
        have HInv : Hid (LInv w0 W.heap.size top J W.heap.size v6 w6 ((liSys w0).cost (bump M y.pl) (S ++ [y] ++ (liSys w0).unm (bump M y.pl) y y.F.len))) :=
          ⟨S ++ [y] ++ (liSys w0).unm (bump M y.pl) y y.F.len, bump M y.pl, _, pre, HI.out.open_ _ hM0, HCS.out, HKS.out, by rw [List.length_append, List.length_append, List.length_singleton, HSn.out, List.map_append]; exact hr6, hm6, HJ.out _ _ _ hj5 hb56, hs5.grow hsz hb56, Nat.le_trans hz5 hb56.size, fun p => by
            have h1 := HMk.out p
            have h2 := bump_le1 M y.pl p
            have h3 : (liSys w0).cost M (S ++ [y]) = _ := HCo.out
            have h4 : (liSys w0).cost (bump M y.pl) (S ++ [y] ++ (liSys w0).unm (bump M y.pl) y y.F.len) + 1 ≤ (liSys w0).cost M (S ++ [y]) := hco
            omega, rfl⟩
        have HLt : Hid ((liSys w0).cost (bump M y.pl) (S ++ [y] ++ (liSys w0).unm (bump M y.pl) y y.F.len) < (liSys w0).cost M (S ++ [y])) := hco
        clear hr6 hgr6 hm6 hco hb56
        go_roundw
        case rel => exact ⟨_, HInv.out⟩
        case measure =>
          refine HMu.out _ _ _ HInv.out ?_
          rw [← HCo.out]
          exact HLt.out
      · have hgd : ((M y.pl : Int) + 1 == 1) = false := by simp; omega
        clear hf5 hm5 hj5 hs5 hz5 hb5w
        have HB5 : Hid (Below ws.heap.size ws w5) := hb5
        clear hb5
        gi_wp2
        refine ⟨trivial, fun h => (by cases h), (callsIn_wide.2 (placeOfV_any y.a y.F.len y.c _ hya hyl)).mono ?_⟩
        rintro r w7 ⟨rfl, hb7⟩
        clear hlook
        obtain ⟨hb7w, hr7, -, hm7, hj7, hs7, hz7, hlook⟩ := HW.out _ (HB5.out.trans (hb7.mono HB5.out.size))
        unfold plV
        have HR7 : Hid (w7.ownsRow W.heap.size 25 1 (.slice (some ⟨g, 0, none⟩) n9 cap) n9 (S.map Li.v)) := hr7
        have HM7 : Hid (plKeysV.Has w7 W.heap.size (putL (plOf y.a y.F.len) (.int .i64 ((M y.pl : Int) + 1)) L)) := hm7
        have hco : (liSys w0).cost (bump M y.pl) S + 1 ≤ (liSys w0).cost M (S ++ [y]) := (liSys w0).cost_pop M S y
        have HMp : Hid (∀ p, bump M y.pl p + (liSys w0).cost (bump M y.pl) S ≤ 2 * (top.F.size + 1)) := fun p => by
          have h1 := HMk.out p
          have h2 := bump_le1 M y.pl p
          have h3 : (liSys w0).cost M (S ++ [y]) = _ := HCo.out
          omega
        have HLt : Hid ((liSys w0).cost (bump M y.pl) S < (liSys w0).cost M (S ++ [y])) := hco
        clear hr7 hm7 hco hb7
        by_cases hM1 : M y.pl = 1
        · have hlook' : (Instr.lookup 129 (.map (some W.heap.size)) (.agg #[.pointer (plOf y.a y.F.len).1, .int .i64 (plOf y.a y.F.len).2]) false).run Try.prog w7 = .ok (.int .i64 2) w7 := by rw [hM1] at hlook; exact hlook
          obtain ⟨hkids, hinvT⟩ := HI.out.tell _ hM1
          obtain ⟨fn, tmps, assign, body, hy, hR⟩ := HY.out pre y w7 hj7 ⟨HYo.out, hkids⟩ hz7
          have HIT : Hid (Inv (liSys w0) top S (bump M y.pl) (pre ++ [y])) := hinvT
          clear hlook hkids hinvT
          gi_wp2
          refine ⟨fun h => (by cases h), hR.mono ?_⟩
          rintro r w8 ⟨rfl, hJ8, hk8⟩
          have hr8 := rowL_keeps HR7.out hg1 (hk8.2 g (.inr hg1))
          have hm8 := HM7.out.same _ (hk8.2 W.heap.size (.inr (Nat.le_refl _)) (has_lt HM7.out))
          have HInv : Hid (LInv w0 W.heap.size top J W.heap.size (.slice (some ⟨g, 0, none⟩) n9 cap) w8 ((liSys w0).cost (bump M y.pl) S)) :=
            ⟨S, bump M y.pl, _, pre ++ [y], HIT.out, HCS.out, HKS.out, by rw [HSn.out]; exact hr8, hm8, hJ8, ⟨Nat.le_trans hs7.1 hk8.1, fun j hj => (hk8.2 j (.inl hj) (Nat.lt_of_lt_of_le hj hs7.1)).trans (hs7.2 j hj)⟩, Nat.le_trans hz7 hk8.1, HMp.out, rfl⟩
          clear hR hy hlook' hr8 hm8 hJ8 hk8
          gi_wp2
          go_roundw
          case rel => exact ⟨_, HInv.out⟩
          case measure =>
            refine HMu.out _ _ _ HInv.out ?_
            rw [← HCo.out]
            exact HLt.out
        · have hgd2 : ((M y.pl : Int) + 1 == 2) = false := by simp; omega
          have HInv : Hid (LInv w0 W.heap.size top J W.heap.size (.slice (some ⟨g, 0, none⟩) n9 cap) w7 ((liSys w0).cost (bump M y.pl) S)) :=
            ⟨S, bump M y.pl, _, pre, HI.out.again _ (by show 2 ≤ M y.pl; omega), HCS.out, HKS.out, by rw [HSn.out]; exact HR7.out, HM7.out, hj7, hs7, hz7, HMp.out, rfl⟩
          gi_wp2
          refine ⟨fun _ h => (by cases h), ?_⟩
          gi_wp2
          go_roundw
          case rel => exact ⟨_, HInv.out⟩
          case measure =>
            refine HMu.out _ _ _ HInv.out ?_
            rw [← HCo.out]
            exact HLt.out
end Go.Proofs.Ytafhpplhlmlfhaa
/- How many values a value has, by the program: regions of a round. -/
namespace Go.Proofs.Ytafhpplhlmlfhaa
open Go.RowKit
def noDefer (ops : Array Oper) : Bool := ops.all fun o => match o.op with | .defer _ => false | _ => true
theorem noDefer_is {ops : Array Oper} (h : noDefer ops = true) : ∀ (i : Nat) (o : Oper), ops[i]? = some o → ∀ c, o.op ≠ .defer c := by
  intro i o ho c e
  obtain ⟨hi, rfl⟩ := Array.getElem?_eq_some_iff.1 ho
  have := (Array.all_eq_true.1 h) i hi
  rw [e] at this
  cases this
theorem wpIn_region_round2 {P : Program} {ops : Array Oper} {Q : Exit → Act → World → Prop} {n l : Nat} {S : World → Prop} {id : Nat} {a : Act} {w : World} (hd : noDefer ops = true) (hm : P.follows .mixedOrders = true) (hS : S w.drew)
    (h : S w.drew → wpAnyH P .any ops (fun e a w => e ≠ .outgrown ∧ Q e a w) S ops.size (Array.replicate ops.size false) a w.drew) : (Code.region id ops true).wpIn (Fence.wide.inRound l) n P Q a w :=
  wpIn_mono (wpIn_region_round (noDefer_is hd) (fun ⟨_, _, h⟩ => h.1 rfl) hm hS h) (fun _ _ _ h => h.2)
theorem max_cast (x y : Nat) : ((max x y : Nat) : Int) = max (x : Int) (y : Int) := by omega
theorem upTo2_le (x y : Nat) : upTo2 x y ≤ 9223372036854775807 := by unfold upTo2; split <;> omega
set_option maxRecDepth 100000 in
set_option maxHeartbeats 1000000 in
theorem ex11 {Q : Exit → Act → World → Prop} {l n : Nat} {t0 t1 t2 t3 t4 t6 t7 t9 t10 t11 t12 t13 t14 t15 t16 t17 t18 t19 t20 t21 t22 t23 t24 t25 t26 t27 t28 t29 t30 t31 t32 t33 t34 t35 t36 t37 t38 t39 t40 t41 t42 t43 t44 t45 t46 t47 t48 t49 t50 t51 t52 t53 t54 t55 t56 t57 t58 t59 t60 t61 t62 t63 t64 : Value} {W : World} {A C x y p q : Nat}
    (RA : Row W A [.int .i64 x, .int .i64 y]) (RC : Row W C [.int .i64 p, .int .i64 q])
    (hp : ∀ p d v a w, Q (.panic p) (Act.put a d v) w → Q (.panic p) a w) (h : ∀ ws w9 v33 v34 v35 v36 v37 v38 v39, Below W.heap.size W w9 → ws = w9.setCell ⟨A, 0, none⟩ (.int .i64 (upTo2 x (upTo2 p 1) : Nat)) → Q .normal { tmps := (t0 :: t1 :: t2 :: t3 :: t4 :: (.pointer (some ⟨A, 0, none⟩)) :: t6 :: t7 :: (.pointer (some ⟨C, 0, none⟩)) :: t9 :: t10 :: t11 :: t12 :: t13 :: t14 :: t15 :: t16 :: t17 :: t18 :: t19 :: t20 :: t21 :: t22 :: t23 :: t24 :: t25 :: t26 :: t27 :: t28 :: t29 :: t30 :: t31 :: t32 :: v33 :: v34 :: v35 :: v36 :: v37 :: v38 :: v39 :: t40 :: t41 :: t42 :: t43 :: t44 :: t45 :: t46 :: t47 :: t48 :: t49 :: t50 :: t51 :: t52 :: t53 :: t54 :: t55 :: t56 :: t57 :: t58 :: t59 :: t60 :: t61 :: t62 :: t63 :: t64 :: []).toArray, defers := [] } ws) :
    Code.wpIn (Fence.wide.inRound l) n Try.prog (Code.region 11 #[{ dst := some 33, op := Op.fieldAddr 49 (Operand.tmp 5) 0, type := 0, pos := "l3_tree.go:302", after := #[], guard := none }, { dst := some 34, op := Op.load 3 (Operand.tmp 33), type := 3, pos := "l3_tree.go:302", after := #[{ on := 0, ground := Ground.data }], guard := none }, { dst := some 35, op := Op.fieldAddr 49 (Operand.tmp 8) 0, type := 0, pos := "l3_tree.go:302", after := #[], guard := none }, { dst := some 36, op := Op.load 3 (Operand.tmp 35), type := 3, pos := "l3_tree.go:302", after := #[{ on := 2, ground := Ground.data }], guard := none }, { dst := some 37, op := Op.call { callee := Callee.value (Operand.func 52), args := #[Operand.tmp 36, Operand.const (Value.int IntKind.i64 1)], argTypes := #[3, 3] }, type := 3, pos := "l3_tree.go:302", after := #[{ on := 3, ground := Ground.data }], guard := none }, { dst := some 38, op := Op.call { callee := Callee.value (Operand.func 52), args := #[Operand.tmp 34, Operand.tmp 37], argTypes := #[3, 3] }, type := 3, pos := "l3_tree.go:302", after := #[{ on := 1, ground := Ground.data }, { on := 4, ground := Ground.data }, { on := 4, ground := Ground.chain }], guard := none }, { dst := some 39, op := Op.fieldAddr 49 (Operand.tmp 5) 0, type := 0, pos := "l3_tree.go:302", after := #[{ on := 0, ground := Ground.phase }, { on := 1, ground := Ground.phase }, { on := 2, ground := Ground.phase }, { on := 3, ground := Ground.phase }, { on := 4, ground := Ground.phase }, { on := 5, ground := Ground.phase }], guard := none }, { dst := none, op := Op.store 3 (Operand.tmp 39) (Operand.tmp 38), type := 0, pos := "l3_tree.go:302", after := #[{ on := 6, ground := Ground.data }, { on := 5, ground := Ground.data }, { on := 5, ground := Ground.chain }, { on := 0, ground := Ground.phase }, { on := 1, ground := Ground.phase }, { on := 2, ground := Ground.phase }, { on := 3, ground := Ground.phase }, { on := 4, ground := Ground.phase }, { on := 5, ground := Ground.phase }], guard := none }] true) Q { tmps := (t0 :: t1 :: t2 :: t3 :: t4 :: (.pointer (some ⟨A, 0, none⟩)) :: t6 :: t7 :: (.pointer (some ⟨C, 0, none⟩)) :: t9 :: t10 :: t11 :: t12 :: t13 :: t14 :: t15 :: t16 :: t17 :: t18 :: t19 :: t20 :: t21 :: t22 :: t23 :: t24 :: t25 :: t26 :: t27 :: t28 :: t29 :: t30 :: t31 :: t32 :: t33 :: t34 :: t35 :: t36 :: t37 :: t38 :: t39 :: t40 :: t41 :: t42 :: t43 :: t44 :: t45 :: t46 :: t47 :: t48 :: t49 :: t50 :: t51 :: t52 :: t53 :: t54 :: t55 :: t56 :: t57 :: t58 :: t59 :: t60 :: t61 :: t62 :: t63 :: t64 :: []).toArray, defers := [] } W := by
  have hA := (RA 0 _ rfl).1
  have hC := (RC 0 _ rfl).1
  have HRA : Hid (Row W A [.int .i64 x, .int .i64 y]) := RA
  have hA9 : W.drew.cell? ⟨A, 0, none⟩ = some (.int .i64 x) := hA
  have hC9 : W.drew.cell? ⟨C, 0, none⟩ = some (.int .i64 p) := hC
  have hAl := World.block_lt_of_cell? _ _ hA
  have hB0 := (Below.refl W.heap.size W).drew
  clear hA hC RA RC
  refine wpIn_region_round2 (S := fun _ => True) (by kernel_rfl) (by kernel_rfl) trivial (fun hHeld => ?_)
  refine wpAnyH_take (i := 0) (v := .pointer (some ⟨A, 0, none⟩)) rfl (by kernel_rfl) (by kernel_rfl) (by kernel_rfl) (fun _ _ _ h => ⟨h.1, hp _ _ _ _ _ h.2⟩) (Or.inl ⟨by rfl, ?_⟩) (by trivial) ?_
  · intro w hSw
    go_simp
  (try simp only [Act.put, List.getElem_toArray, List.getElem_cons_zero, List.setIfInBounds_toArray, List.set_cons_zero, List.set_cons_succ])
  refine wpAnyH_take (i := 2) (v := .pointer (some ⟨C, 0, none⟩)) rfl (by kernel_rfl) (by kernel_rfl) (by kernel_rfl) (fun _ _ _ h => ⟨h.1, hp _ _ _ _ _ h.2⟩) (Or.inl ⟨by rfl, ?_⟩) (by trivial) ?_
  · intro w hSw
    go_simp
  (try simp only [Act.put, List.getElem_toArray, List.getElem_cons_zero, List.getElem_cons_succ, List.setIfInBounds_toArray, List.set_cons_zero, List.set_cons_succ])
  refine wpAnyH_ready (rs := [1, 3]) (by kernel_rfl) (by simp) ?_
  refine (AllReadyH.cons rfl (fun K hK => ?_) (AllReadyH.cons rfl (fun K hK => ?_) AllReadyH.nil))
  · go_simp
    refine hK.out _ _ trivial (fun hHeld => ?_)
    clear hK K
    (try simp only [Act.put, List.getElem_toArray, List.getElem_cons_zero, List.getElem_cons_succ, List.setIfInBounds_toArray, List.set_cons_zero, List.set_cons_succ])
    refine wpAnyH_ready (rs := [3]) (by kernel_rfl) (by simp) ?_
    refine (AllReadyH.cons rfl (fun K hK => ?_) AllReadyH.nil)
    · go_simp
      refine hK.out _ _ trivial (fun hHeld => ?_)
      clear hK K
      (try simp only [Act.put, List.getElem_toArray, List.getElem_cons_zero, List.getElem_cons_succ, List.setIfInBounds_toArray, List.set_cons_zero, List.set_cons_succ])
      refine wpAnyH_ready (rs := [4]) (by kernel_rfl) (by simp) ?_
      refine (AllReadyH.cons rfl (fun K hK => ?_) AllReadyH.nil)
      · go_simp
        refine (sumUpTo_any p 1 _ (by omega)).mono ?_
        rintro r w1 ⟨rfl, hb1⟩
        have hB1 := hB0.trans (hb1.mono hB0.size)
        have hA1 : w1.cell? ⟨A, 0, none⟩ = some (.int .i64 x) := (hB1.cell (p := ⟨A, 0, none⟩) hAl).trans hA9
        go_wp2_with fail
        refine hK.out _ _ trivial (fun hHeld => ?_)
        clear hK K
        refine wpAnyH_ready (rs := [5]) (by kernel_rfl) (by simp) ?_
        refine (AllReadyH.cons rfl (fun K hK => ?_) AllReadyH.nil)
        · go_simp
          refine (sumUpTo_any x (upTo2 p 1) _ (upTo2_le _ _)).mono ?_
          rintro r w2 ⟨rfl, hb2⟩
          have hB2 := hB1.trans (hb2.mono hB1.size)
          go_wp2_with fail
          refine hK.out _ _ trivial (fun hHeld => ?_)
          clear hK K
          have hA2 : w2.cell? ⟨A, 0, none⟩ = some (.int .i64 x) := (hB2.cell (p := ⟨A, 0, none⟩) hAl).trans hA9
          have hz2 := ((HRA.out.below hB2 hAl) 0 _ rfl).2
          clear hA9 hC9
          refine wpAnyH_take (i := 6) (v := .pointer (some ⟨A, 0, none⟩)) rfl (by kernel_rfl) (by kernel_rfl) (by kernel_rfl) (fun _ _ _ h => ⟨h.1, hp _ _ _ _ _ h.2⟩) (Or.inl ⟨by rfl, ?_⟩) (by trivial) ?_
          · intro w hSw
            go_simp
          (try simp only [Act.put, List.getElem_toArray, List.getElem_cons_zero, List.getElem_cons_succ, List.setIfInBounds_toArray, List.set_cons_zero, List.set_cons_succ])
          refine wpAnyH_ready (rs := [7]) (by kernel_rfl) (by simp) ?_
          refine (AllReadyH.cons rfl (fun K hK => ?_) AllReadyH.nil)
          · go_simp
            refine hK.out _ _ trivial (fun hHeld => ?_)
            refine wpAnyH_done (by kernel_rfl) ?_ _
            exact ⟨(fun e => by cases e), h _ w2 _ _ _ _ _ _ _ hB2 rfl⟩
  · go_simp
    refine hK.out _ _ trivial (fun hHeld => ?_)
    clear hK K
    (try simp only [Act.put, List.getElem_toArray, List.getElem_cons_zero, List.getElem_cons_succ, List.setIfInBounds_toArray, List.set_cons_zero, List.set_cons_succ])
    refine wpAnyH_ready (rs := [1, 4]) (by kernel_rfl) (by simp) ?_
    refine (AllReadyH.cons rfl (fun K hK => ?_) (AllReadyH.cons rfl (fun K hK => ?_) AllReadyH.nil))
    · go_simp
      refine hK.out _ _ trivial (fun hHeld => ?_)
      clear hK K
      (try simp only [Act.put, List.getElem_toArray, List.getElem_cons_zero, List.getElem_cons_succ, List.setIfInBounds_toArray, List.set_cons_zero, List.set_cons_succ])
      refine wpAnyH_ready (rs := [4]) (by kernel_rfl) (by simp) ?_
      refine (AllReadyH.cons rfl (fun K hK => ?_) AllReadyH.nil)
      · go_simp
        refine (sumUpTo_any p 1 _ (by omega)).mono ?_
        rintro r w1 ⟨rfl, hb1⟩
        have hB1 := hB0.trans (hb1.mono hB0.size)
        have hA1 : w1.cell? ⟨A, 0, none⟩ = some (.int .i64 x) := (hB1.cell (p := ⟨A, 0, none⟩) hAl).trans hA9
        go_wp2_with fail
        refine hK.out _ _ trivial (fun hHeld => ?_)
        clear hK K
        refine wpAnyH_ready (rs := [5]) (by kernel_rfl) (by simp) ?_
        refine (AllReadyH.cons rfl (fun K hK => ?_) AllReadyH.nil)
        · go_simp
          refine (sumUpTo_any x (upTo2 p 1) _ (upTo2_le _ _)).mono ?_
          rintro r w2 ⟨rfl, hb2⟩
          have hB2 := hB1.trans (hb2.mono hB1.size)
          go_wp2_with fail
          refine hK.out _ _ trivial (fun hHeld => ?_)
          clear hK K
          have hA2 : w2.cell? ⟨A, 0, none⟩ = some (.int .i64 x) := (hB2.cell (p := ⟨A, 0, none⟩) hAl).trans hA9
          have hz2 := ((HRA.out.below hB2 hAl) 0 _ rfl).2
          clear hA9 hC9
          refine wpAnyH_take (i := 6) (v := .pointer (some ⟨A, 0, none⟩)) rfl (by kernel_rfl) (by kernel_rfl) (by kernel_rfl) (fun _ _ _ h => ⟨h.1, hp _ _ _ _ _ h.2⟩) (Or.inl ⟨by rfl, ?_⟩) (by trivial) ?_
          · intro w hSw
            go_simp
          (try simp only [Act.put, List.getElem_toArray, List.getElem_cons_zero, List.getElem_cons_succ, List.setIfInBounds_toArray, List.set_cons_zero, List.set_cons_succ])
          refine wpAnyH_ready (rs := [7]) (by kernel_rfl) (by simp) ?_
          refine (AllReadyH.cons rfl (fun K hK => ?_) AllReadyH.nil)
          · go_simp
            refine hK.out _ _ trivial (fun hHeld => ?_)
            refine wpAnyH_done (by kernel_rfl) ?_ _
            exact ⟨(fun e => by cases e), h _ w2 _ _ _ _ _ _ _ hB2 rfl⟩
    · go_simp
      refine (sumUpTo_any p 1 _ (by omega)).mono ?_
      rintro r w1 ⟨rfl, hb1⟩
      have hB1 := hB0.trans (hb1.mono hB0.size)
      have hA1 : w1.cell? ⟨A, 0, none⟩ = some (.int .i64 x) := (hB1.cell (p := ⟨A, 0, none⟩) hAl).trans hA9
      go_wp2_with fail
      refine hK.out _ _ trivial (fun hHeld => ?_)
      clear hK K
      refine wpAnyH_ready (rs := [1]) (by kernel_rfl) (by simp) ?_
      refine (AllReadyH.cons rfl (fun K hK => ?_) AllReadyH.nil)
      · go_simp
        refine hK.out _ _ trivial (fun hHeld => ?_)
        clear hK K
        (try simp only [Act.put, List.getElem_toArray, List.getElem_cons_zero, List.getElem_cons_succ, List.setIfInBounds_toArray, List.set_cons_zero, List.set_cons_succ])
        refine wpAnyH_ready (rs := [5]) (by kernel_rfl) (by simp) ?_
        refine (AllReadyH.cons rfl (fun K hK => ?_) AllReadyH.nil)
        · go_simp
          refine (sumUpTo_any x (upTo2 p 1) _ (upTo2_le _ _)).mono ?_
          rintro r w2 ⟨rfl, hb2⟩
          have hB2 := hB1.trans (hb2.mono hB1.size)
          go_wp2_with fail
          refine hK.out _ _ trivial (fun hHeld => ?_)
          clear hK K
          have hA2 : w2.cell? ⟨A, 0, none⟩ = some (.int .i64 x) := (hB2.cell (p := ⟨A, 0, none⟩) hAl).trans hA9
          have hz2 := ((HRA.out.below hB2 hAl) 0 _ rfl).2
          clear hA9 hC9
          refine wpAnyH_take (i := 6) (v := .pointer (some ⟨A, 0, none⟩)) rfl (by kernel_rfl) (by kernel_rfl) (by kernel_rfl) (fun _ _ _ h => ⟨h.1, hp _ _ _ _ _ h.2⟩) (Or.inl ⟨by rfl, ?_⟩) (by trivial) ?_
          · intro w hSw
            go_simp
          (try simp only [Act.put, List.getElem_toArray, List.getElem_cons_zero, List.getElem_cons_succ, List.setIfInBounds_toArray, List.set_cons_zero, List.set_cons_succ])
          refine wpAnyH_ready (rs := [7]) (by kernel_rfl) (by simp) ?_
          refine (AllReadyH.cons rfl (fun K hK => ?_) AllReadyH.nil)
          · go_simp
            refine hK.out _ _ trivial (fun hHeld => ?_)
            refine wpAnyH_done (by kernel_rfl) ?_ _
            exact ⟨(fun e => by cases e), h _ w2 _ _ _ _ _ _ _ hB2 rfl⟩
set_option maxRecDepth 100000 in
set_option maxHeartbeats 1000000 in
theorem ex12 {Q : Exit → Act → World → Prop} {l n : Nat} {t0 t1 t2 t3 t4 t6 t7 t9 t10 t11 t12 t13 t14 t15 t16 t17 t18 t19 t20 t21 t22 t23 t24 t25 t26 t27 t28 t29 t30 t31 t32 t33 t34 t35 t36 t37 t38 t39 t40 t41 t42 t43 t44 t45 t46 t47 t48 t49 t50 t51 t52 t53 t54 t55 t56 t57 t58 t59 t60 t61 t62 t63 t64 : Value} {W : World} {A C x y p q : Nat}
    (RA : Row W A [.int .i64 x, .int .i64 y]) (RC : Row W C [.int .i64 p, .int .i64 q])
    (hp : ∀ p d v a w, Q (.panic p) (Act.put a d v) w → Q (.panic p) a w) (h : ∀ ws w9 v40 v41 v42 v43 v44 v45 v46, Below W.heap.size W w9 → ws = w9.setCell ⟨A, 1, none⟩ (.int .i64 (max y (upTo2 q 1) : Nat)) → Q .normal { tmps := (t0 :: t1 :: t2 :: t3 :: t4 :: (.pointer (some ⟨A, 0, none⟩)) :: t6 :: t7 :: (.pointer (some ⟨C, 0, none⟩)) :: t9 :: t10 :: t11 :: t12 :: t13 :: t14 :: t15 :: t16 :: t17 :: t18 :: t19 :: t20 :: t21 :: t22 :: t23 :: t24 :: t25 :: t26 :: t27 :: t28 :: t29 :: t30 :: t31 :: t32 :: t33 :: t34 :: t35 :: t36 :: t37 :: t38 :: t39 :: v40 :: v41 :: v42 :: v43 :: v44 :: v45 :: v46 :: t47 :: t48 :: t49 :: t50 :: t51 :: t52 :: t53 :: t54 :: t55 :: t56 :: t57 :: t58 :: t59 :: t60 :: t61 :: t62 :: t63 :: t64 :: []).toArray, defers := [] } ws) :
    Code.wpIn (Fence.wide.inRound l) n Try.prog (Code.region 12 #[{ dst := some 40, op := Op.fieldAddr 49 (Operand.tmp 5) 1, type := 0, pos := "l3_tree.go:303", after := #[], guard := none }, { dst := some 41, op := Op.load 3 (Operand.tmp 40), type := 3, pos := "l3_tree.go:303", after := #[{ on := 0, ground := Ground.data }], guard := none }, { dst := some 42, op := Op.fieldAddr 49 (Operand.tmp 8) 1, type := 0, pos := "l3_tree.go:303", after := #[], guard := none }, { dst := some 43, op := Op.load 3 (Operand.tmp 42), type := 3, pos := "l3_tree.go:303", after := #[{ on := 2, ground := Ground.data }], guard := none }, { dst := some 44, op := Op.call { callee := Callee.value (Operand.func 52), args := #[Operand.tmp 43, Operand.const (Value.int IntKind.i64 1)], argTypes := #[3, 3] }, type := 3, pos := "l3_tree.go:303", after := #[{ on := 3, ground := Ground.data }], guard := none }, { dst := some 45, op := Op.call { callee := Callee.builtin Builtin.max, args := #[Operand.tmp 41, Operand.tmp 44], argTypes := #[3, 3] }, type := 3, pos := "l3_tree.go:303", after := #[{ on := 1, ground := Ground.data }, { on := 4, ground := Ground.data }], guard := none }, { dst := some 46, op := Op.fieldAddr 49 (Operand.tmp 5) 1, type := 0, pos := "l3_tree.go:303", after := #[{ on := 0, ground := Ground.phase }, { on := 1, ground := Ground.phase }, { on := 2, ground := Ground.phase }, { on := 3, ground := Ground.phase }, { on := 4, ground := Ground.phase }, { on := 5, ground := Ground.phase }], guard := none }, { dst := none, op := Op.store 3 (Operand.tmp 46) (Operand.tmp 45), type := 0, pos := "l3_tree.go:303", after := #[{ on := 6, ground := Ground.data }, { on := 5, ground := Ground.data }, { on := 4, ground := Ground.chain }, { on := 0, ground := Ground.phase }, { on := 1, ground := Ground.phase }, { on := 2, ground := Ground.phase }, { on := 3, ground := Ground.phase }, { on := 4, ground := Ground.phase }, { on := 5, ground := Ground.phase }], guard := none }] true) Q { tmps := (t0 :: t1 :: t2 :: t3 :: t4 :: (.pointer (some ⟨A, 0, none⟩)) :: t6 :: t7 :: (.pointer (some ⟨C, 0, none⟩)) :: t9 :: t10 :: t11 :: t12 :: t13 :: t14 :: t15 :: t16 :: t17 :: t18 :: t19 :: t20 :: t21 :: t22 :: t23 :: t24 :: t25 :: t26 :: t27 :: t28 :: t29 :: t30 :: t31 :: t32 :: t33 :: t34 :: t35 :: t36 :: t37 :: t38 :: t39 :: t40 :: t41 :: t42 :: t43 :: t44 :: t45 :: t46 :: t47 :: t48 :: t49 :: t50 :: t51 :: t52 :: t53 :: t54 :: t55 :: t56 :: t57 :: t58 :: t59 :: t60 :: t61 :: t62 :: t63 :: t64 :: []).toArray, defers := [] } W := by
  have hA := (RA 1 _ rfl).1
  have hC := (RC 1 _ rfl).1
  have HRA : Hid (Row W A [.int .i64 x, .int .i64 y]) := RA
  have hA9 : W.drew.cell? ⟨A, 1, none⟩ = some (.int .i64 y) := hA
  have hC9 : W.drew.cell? ⟨C, 1, none⟩ = some (.int .i64 q) := hC
  have hAl := World.block_lt_of_cell? _ _ hA
  have hB0 := (Below.refl W.heap.size W).drew
  clear hA hC RA RC
  refine wpIn_region_round2 (S := fun _ => True) (by kernel_rfl) (by kernel_rfl) trivial (fun hHeld => ?_)
  refine wpAnyH_take (i := 0) (v := .pointer (some ⟨A, 1, none⟩)) rfl (by kernel_rfl) (by kernel_rfl) (by kernel_rfl) (fun _ _ _ h => ⟨h.1, hp _ _ _ _ _ h.2⟩) (Or.inl ⟨by rfl, ?_⟩) (by trivial) ?_
  · intro w hSw
    go_simp
  (try simp only [Act.put, List.getElem_toArray, List.getElem_cons_zero, List.setIfInBounds_toArray, List.set_cons_zero, List.set_cons_succ])
  refine wpAnyH_take (i := 2) (v := .pointer (some ⟨C, 1, none⟩)) rfl (by kernel_rfl) (by kernel_rfl) (by kernel_rfl) (fun _ _ _ h => ⟨h.1, hp _ _ _ _ _ h.2⟩) (Or.inl ⟨by rfl, ?_⟩) (by trivial) ?_
  · intro w hSw
    go_simp
  (try simp only [Act.put, List.getElem_toArray, List.getElem_cons_zero, List.getElem_cons_succ, List.setIfInBounds_toArray, List.set_cons_zero, List.set_cons_succ])
  refine wpAnyH_ready (rs := [1, 3]) (by kernel_rfl) (by simp) ?_
  refine (AllReadyH.cons rfl (fun K hK => ?_) (AllReadyH.cons rfl (fun K hK => ?_) AllReadyH.nil))
  · go_simp
    refine hK.out _ _ trivial (fun hHeld => ?_)
    clear hK K
    (try simp only [Act.put, List.getElem_toArray, List.getElem_cons_zero, List.getElem_cons_succ, List.setIfInBounds_toArray, List.set_cons_zero, List.set_cons_succ])
    refine wpAnyH_ready (rs := [3]) (by kernel_rfl) (by simp) ?_
    refine (AllReadyH.cons rfl (fun K hK => ?_) AllReadyH.nil)
    · go_simp
      refine hK.out _ _ trivial (fun hHeld => ?_)
      clear hK K
      (try simp only [Act.put, List.getElem_toArray, List.getElem_cons_zero, List.getElem_cons_succ, List.setIfInBounds_toArray, List.set_cons_zero, List.set_cons_succ])
      refine wpAnyH_ready (rs := [4]) (by kernel_rfl) (by simp) ?_
      refine (AllReadyH.cons rfl (fun K hK => ?_) AllReadyH.nil)
      · go_simp
        refine (sumUpTo_any q 1 _ (by omega)).mono ?_
        rintro r w1 ⟨rfl, hb1⟩
        have hB1 := hB0.trans (hb1.mono hB0.size)
        have hA1 : w1.cell? ⟨A, 1, none⟩ = some (.int .i64 y) := (hB1.cell (p := ⟨A, 1, none⟩) hAl).trans hA9
        go_wp2_with fail
        refine hK.out _ _ trivial (fun hHeld => ?_)
        clear hK K
        refine wpAnyH_take (i := 5) (v := .int .i64 (max y (upTo2 q 1) : Nat)) rfl (by kernel_rfl) (by kernel_rfl) (by kernel_rfl) (fun _ _ _ h => ⟨h.1, hp _ _ _ _ _ h.2⟩) (Or.inl ⟨by rfl, ?_⟩) (by trivial) ?_
        · intro w hSw
          (go_simp; split <;> omega)
        (try simp only [Act.put, List.getElem_toArray, List.getElem_cons_zero, List.getElem_cons_succ, List.setIfInBounds_toArray, List.set_cons_zero, List.set_cons_succ])
        have hB2 := hB1
        generalize w1 = w2 at *
        have hA2 : w2.cell? ⟨A, 1, none⟩ = some (.int .i64 y) := (hB2.cell (p := ⟨A, 1, none⟩) hAl).trans hA9
        have hz2 := ((HRA.out.below hB2 hAl) 1 _ rfl).2
        clear hA9 hC9
        refine wpAnyH_take (i := 6) (v := .pointer (some ⟨A, 1, none⟩)) rfl (by kernel_rfl) (by kernel_rfl) (by kernel_rfl) (fun _ _ _ h => ⟨h.1, hp _ _ _ _ _ h.2⟩) (Or.inl ⟨by rfl, ?_⟩) (by trivial) ?_
        · intro w hSw
          go_simp
        (try simp only [Act.put, List.getElem_toArray, List.getElem_cons_zero, List.getElem_cons_succ, List.setIfInBounds_toArray, List.set_cons_zero, List.set_cons_succ])
        refine wpAnyH_ready (rs := [7]) (by kernel_rfl) (by simp) ?_
        refine (AllReadyH.cons rfl (fun K hK => ?_) AllReadyH.nil)
        · go_simp
          refine hK.out _ _ trivial (fun hHeld => ?_)
          refine wpAnyH_done (by kernel_rfl) ?_ _
          exact ⟨(fun e => by cases e), h _ w2 _ _ _ _ _ _ _ hB2 rfl⟩
  · go_simp
    refine hK.out _ _ trivial (fun hHeld => ?_)
    clear hK K
    (try simp only [Act.put, List.getElem_toArray, List.getElem_cons_zero, List.getElem_cons_succ, List.setIfInBounds_toArray, List.set_cons_zero, List.set_cons_succ])
    refine wpAnyH_ready (rs := [1, 4]) (by kernel_rfl) (by simp) ?_
    refine (AllReadyH.cons rfl (fun K hK => ?_) (AllReadyH.cons rfl (fun K hK => ?_) AllReadyH.nil))
    · go_simp
      refine hK.out _ _ trivial (fun hHeld => ?_)
      clear hK K
      (try simp only [Act.put, List.getElem_toArray, List.getElem_cons_zero, List.getElem_cons_succ, List.setIfInBounds_toArray, List.set_cons_zero, List.set_cons_succ])
      refine wpAnyH_ready (rs := [4]) (by kernel_rfl) (by simp) ?_
      refine (AllReadyH.cons rfl (fun K hK => ?_) AllReadyH.nil)
      · go_simp
        refine (sumUpTo_any q 1 _ (by omega)).mono ?_
        rintro r w1 ⟨rfl, hb1⟩
        have hB1 := hB0.trans (hb1.mono hB0.size)
        have hA1 : w1.cell? ⟨A, 1, none⟩ = some (.int .i64 y) := (hB1.cell (p := ⟨A, 1, none⟩) hAl).trans hA9
        go_wp2_with fail
        refine hK.out _ _ trivial (fun hHeld => ?_)
        clear hK K
        refine wpAnyH_take (i := 5) (v := .int .i64 (max y (upTo2 q 1) : Nat)) rfl (by kernel_rfl) (by kernel_rfl) (by kernel_rfl) (fun _ _ _ h => ⟨h.1, hp _ _ _ _ _ h.2⟩) (Or.inl ⟨by rfl, ?_⟩) (by trivial) ?_
        · intro w hSw
          (go_simp; split <;> omega)
        (try simp only [Act.put, List.getElem_toArray, List.getElem_cons_zero, List.getElem_cons_succ, List.setIfInBounds_toArray, List.set_cons_zero, List.set_cons_succ])
        have hB2 := hB1
        generalize w1 = w2 at *
        have hA2 : w2.cell? ⟨A, 1, none⟩ = some (.int .i64 y) := (hB2.cell (p := ⟨A, 1, none⟩) hAl).trans hA9
        have hz2 := ((HRA.out.below hB2 hAl) 1 _ rfl).2
        clear hA9 hC9
        refine wpAnyH_take (i := 6) (v := .pointer (some ⟨A, 1, none⟩)) rfl (by kernel_rfl) (by kernel_rfl) (by kernel_rfl) (fun _ _ _ h => ⟨h.1, hp _ _ _ _ _ h.2⟩) (Or.inl ⟨by rfl, ?_⟩) (by trivial) ?_
        · intro w hSw
          go_simp
        (try simp only [Act.put, List.getElem_toArray, List.getElem_cons_zero, List.getElem_cons_succ, List.setIfInBounds_toArray, List.set_cons_zero, List.set_cons_succ])
        refine wpAnyH_ready (rs := [7]) (by kernel_rfl) (by simp) ?_
        refine (AllReadyH.cons rfl (fun K hK => ?_) AllReadyH.nil)
        · go_simp
          refine hK.out _ _ trivial (fun hHeld => ?_)
          refine wpAnyH_done (by kernel_rfl) ?_ _
          exact ⟨(fun e => by cases e), h _ w2 _ _ _ _ _ _ _ hB2 rfl⟩
    · go_simp
      refine (sumUpTo_any q 1 _ (by omega)).mono ?_
      rintro r w1 ⟨rfl, hb1⟩
      have hB1 := hB0.trans (hb1.mono hB0.size)
      have hA1 : w1.cell? ⟨A, 1, none⟩ = some (.int .i64 y) := (hB1.cell (p := ⟨A, 1, none⟩) hAl).trans hA9
      go_wp2_with fail
      refine hK.out _ _ trivial (fun hHeld => ?_)
      clear hK K
      refine wpAnyH_ready (rs := [1]) (by kernel_rfl) (by simp) ?_
      refine (AllReadyH.cons rfl (fun K hK => ?_) AllReadyH.nil)
      · go_simp
        refine hK.out _ _ trivial (fun hHeld => ?_)
        clear hK K
        (try simp only [Act.put, List.getElem_toArray, List.getElem_cons_zero, List.getElem_cons_succ, List.setIfInBounds_toArray, List.set_cons_zero, List.set_cons_succ])
        refine wpAnyH_take (i := 5) (v := .int .i64 (max y (upTo2 q 1) : Nat)) rfl (by kernel_rfl) (by kernel_rfl) (by kernel_rfl) (fun _ _ _ h => ⟨h.1, hp _ _ _ _ _ h.2⟩) (Or.inl ⟨by rfl, ?_⟩) (by trivial) ?_
        · intro w hSw
          (go_simp; split <;> omega)
        (try simp only [Act.put, List.getElem_toArray, List.getElem_cons_zero, List.getElem_cons_succ, List.setIfInBounds_toArray, List.set_cons_zero, List.set_cons_succ])
        have hB2 := hB1
        generalize w1 = w2 at *
        have hA2 : w2.cell? ⟨A, 1, none⟩ = some (.int .i64 y) := (hB2.cell (p := ⟨A, 1, none⟩) hAl).trans hA9
        have hz2 := ((HRA.out.below hB2 hAl) 1 _ rfl).2
        clear hA9 hC9
        refine wpAnyH_take (i := 6) (v := .pointer (some ⟨A, 1, none⟩)) rfl (by kernel_rfl) (by kernel_rfl) (by kernel_rfl) (fun _ _ _ h => ⟨h.1, hp _ _ _ _ _ h.2⟩) (Or.inl ⟨by rfl, ?_⟩) (by trivial) ?_
        · intro w hSw
          go_simp
        (try simp only [Act.put, List.getElem_toArray, List.getElem_cons_zero, List.getElem_cons_succ, List.setIfInBounds_toArray, List.set_cons_zero, List.set_cons_succ])
        refine wpAnyH_ready (rs := [7]) (by kernel_rfl) (by simp) ?_
        refine (AllReadyH.cons rfl (fun K hK => ?_) AllReadyH.nil)
        · go_simp
          refine hK.out _ _ trivial (fun hHeld => ?_)
          refine wpAnyH_done (by kernel_rfl) ?_ _
          exact ⟨(fun e => by cases e), h _ w2 _ _ _ _ _ _ _ hB2 rfl⟩
end Go.Proofs.Ytafhpplhlmlfhaa
/- How many values a value has, by the program: the region of a round that puts a list's extent into the map. -/
namespace Go.Proofs.Ytafhpplhlmlfhaa
open Go.RowKit
abbrev HeldE (kb mb A x y : Nat) (w : World) : Prop := w.cell? ⟨kb, 0, none⟩ = some (.map (some mb)) ∧ w.cell? ⟨A, 0, none⟩ = some (.int .i64 x) ∧ w.cell? ⟨A, 1, none⟩ = some (.int .i64 y)
theorem HeldE.grown {kb mb A x y : Nat} {w w' : World} (h : HeldE kb mb A x y w) {r : Option Nat} (hg : w.grownBy w' r) (h1 : some kb ≠ r) (h2 : some A ≠ r) : HeldE kb mb A x y w' := by
  have hk := World.block_lt_of_cell? _ _ h.1
  have ha := World.block_lt_of_cell? _ _ h.2.1
  exact ⟨(grown_cell hg 0 hk h1).trans h.1, (grown_cell hg 0 ha h2).trans h.2.1, (grown_cell hg 1 ha h2).trans h.2.2⟩
set_option maxRecDepth 100000 in
set_option maxHeartbeats 1000000 in
theorem ex14 {Q : Exit → Act → World → Prop} {l n : Nat} {t0 t1 t2 t6 t7 t8 t9 t10 t11 t12 t13 t14 t15 t16 t17 t18 t19 t20 t21 t22 t23 t24 t25 t26 t27 t28 t29 t30 t31 t32 t33 t34 t35 t36 t37 t38 t39 t40 t41 t42 t43 t44 t45 t46 t47 t48 t49 t50 t51 t52 t53 t54 t55 t56 t57 t58 t59 t60 t61 t62 t63 t64 : Value} {W : World} {kb mb A m c x y : Nat} {a : Option Addr} {L : List (Pl × Value)}
    (hE : HeldE kb mb A x y W) (hm : plKeysV.Is W mb L) (hok : PlOk W (plOf a m)) (hoks : ∀ q ∈ L, PlOk W q.1) (ha : m = 0 ∨ ∃ b o, a = some ⟨b, o, none⟩) (hml : m ≤ 2000000) (hk : kb ≠ mb) (hA : A ≠ mb)
    (hp : ∀ p d v a w, Q (.panic p) (Act.put a d v) w → Q (.panic p) a w) (h : ∀ ws v48 v49 v50 v51, plKeysV.Is ws mb (putL (plOf a m) (.agg #[.int .i64 x, .int .i64 y]) L) → W.grownBy ws (some mb) → Q .normal { tmps := (t0 :: t1 :: t2 :: (.pointer (some ⟨kb, 0, none⟩)) :: (.slice a m c) :: (.pointer (some ⟨A, 0, none⟩)) :: t6 :: t7 :: t8 :: t9 :: t10 :: t11 :: t12 :: t13 :: t14 :: t15 :: t16 :: t17 :: t18 :: t19 :: t20 :: t21 :: t22 :: t23 :: t24 :: t25 :: t26 :: t27 :: t28 :: t29 :: t30 :: t31 :: t32 :: t33 :: t34 :: t35 :: t36 :: t37 :: t38 :: t39 :: t40 :: t41 :: t42 :: t43 :: t44 :: t45 :: t46 :: t47 :: v48 :: v49 :: v50 :: v51 :: t52 :: t53 :: t54 :: t55 :: t56 :: t57 :: t58 :: t59 :: t60 :: t61 :: t62 :: t63 :: t64 :: []).toArray, defers := [] } ws) :
    Code.wpIn (Fence.wide.inRound l) n Try.prog (Code.region 14 #[{ dst := some 48, op := Op.load 77 (Operand.tmp 3), type := 77, pos := "l3_tree.go:305", after := #[], guard := none }, { dst := some 49, op := Op.move (Operand.tmp 4), type := 25, pos := "l3_tree.go:305", after := #[], guard := none }, { dst := some 50, op := Op.call { callee := Callee.value (Operand.func 51), args := #[Operand.tmp 49], argTypes := #[25] }, type := 84, pos := "l3_tree.go:305", after := #[{ on := 1, ground := Ground.data }], guard := none }, { dst := some 51, op := Op.load 49 (Operand.tmp 5), type := 49, pos := "l3_tree.go:305", after := #[], guard := none }, { dst := none, op := Op.mapUpdate 77 (Operand.tmp 48) (Operand.tmp 50) (Operand.tmp 51), type := 0, pos := "l3_tree.go:305", after := #[{ on := 0, ground := Ground.data }, { on := 2, ground := Ground.data }, { on := 3, ground := Ground.data }, { on := 2, ground := Ground.chain }, { on := 0, ground := Ground.phase }, { on := 1, ground := Ground.phase }, { on := 2, ground := Ground.phase }, { on := 3, ground := Ground.phase }], guard := none }] true) Q { tmps := (t0 :: t1 :: t2 :: (.pointer (some ⟨kb, 0, none⟩)) :: (.slice a m c) :: (.pointer (some ⟨A, 0, none⟩)) :: t6 :: t7 :: t8 :: t9 :: t10 :: t11 :: t12 :: t13 :: t14 :: t15 :: t16 :: t17 :: t18 :: t19 :: t20 :: t21 :: t22 :: t23 :: t24 :: t25 :: t26 :: t27 :: t28 :: t29 :: t30 :: t31 :: t32 :: t33 :: t34 :: t35 :: t36 :: t37 :: t38 :: t39 :: t40 :: t41 :: t42 :: t43 :: t44 :: t45 :: t46 :: t47 :: t48 :: t49 :: t50 :: t51 :: t52 :: t53 :: t54 :: t55 :: t56 :: t57 :: t58 :: t59 :: t60 :: t61 :: t62 :: t63 :: t64 :: []).toArray, defers := [] } W := by
  have hB0 := (Below.refl W.heap.size W).drew
  have hE0 : HeldE kb mb A x y W.drew := hE
  have HSof : Hid (∀ w', Below W.heap.size W w' → HeldE kb mb A x y w') := fun w' h => hE.grown (grown_below h) (fun e => by cases e) (fun e => by cases e)
  have hmlt : mb < W.heap.size := by obtain ⟨es, clock, h, _⟩ := hm; exact (Array.getElem?_eq_some_iff.1 h).1
  refine wpIn_region_round2 (S := fun w' => HeldE kb mb A x y w') (by kernel_rfl) (by kernel_rfl) hE0 (fun hHeld => ?_)
  clear hE hE0
  refine wpAnyH_take (i := 0) (v := .map (some mb)) rfl (by kernel_rfl) (by kernel_rfl) (by kernel_rfl) (fun _ _ _ h => ⟨h.1, hp _ _ _ _ _ h.2⟩) (Or.inl ⟨by rfl, ?_⟩) (by assumption) ?_
  · intro w hSw
    (try dsimp only at hSw)
    go_simp
  (try simp only [Act.put, List.getElem_toArray, List.getElem_cons_zero, List.setIfInBounds_toArray, List.set_cons_zero, List.set_cons_succ])
  refine wpAnyH_take (i := 1) (v := .slice a m c) rfl (by kernel_rfl) (by kernel_rfl) (by kernel_rfl) (fun _ _ _ h => ⟨h.1, hp _ _ _ _ _ h.2⟩) (Or.inl ⟨by rfl, ?_⟩) (by assumption) ?_
  · intro w hSw
    (try dsimp only at hSw)
    go_simp
  (try simp only [Act.put, List.getElem_toArray, List.getElem_cons_zero, List.getElem_cons_succ, List.setIfInBounds_toArray, List.set_cons_zero, List.set_cons_succ])
  refine wpAnyH_take (i := 3) (v := (.agg #[.int .i64 x, .int .i64 y])) rfl (by kernel_rfl) (by kernel_rfl) (by kernel_rfl) (fun _ _ _ h => ⟨h.1, hp _ _ _ _ _ h.2⟩) (Or.inl ⟨by rfl, ?_⟩) (by assumption) ?_
  · intro w hSw
    (try dsimp only at hSw)
    go_simp
  (try simp only [Act.put, List.getElem_toArray, List.getElem_cons_zero, List.getElem_cons_succ, List.setIfInBounds_toArray, List.set_cons_zero, List.set_cons_succ])
  refine wpAnyH_ready (rs := [2]) (by kernel_rfl) (by simp) ?_
  refine (AllReadyH.cons rfl (fun K hK => ?_) AllReadyH.nil)
  · go_simp
    refine (placeOfV_any a m c _ ha hml).mono ?_
    rintro r w1 ⟨rfl, hb1⟩
    have hB1 := hB0.trans (hb1.mono hB0.size)
    have hS1 := HSof.out _ hB1
    obtain ⟨ws, hput, hmS, hgr, hszs⟩ := plKeysV.put (mty := 77) (et := 49) Try.underlying77 (plOf a m) (.agg #[.int .i64 x, .int .i64 y]) (hok.below hB1) (fun q hq => (hoks q hq).below hB1) (hm.grown _ (hB1.block _ hmlt))
    have hput' : (Instr.mapUpdate 77 (.map (some mb)) (.agg #[.pointer (plOf a m).1, .int .i64 (plOf a m).2]) (.agg #[.int .i64 x, .int .i64 y])).run Try.prog w1 = .ok () ws := hput
    have HMS : Hid (plKeysV.Is ws mb (putL (plOf a m) (.agg #[.int .i64 x, .int .i64 y]) L)) := hmS
    have HG : Hid (W.grownBy ws (some mb)) := grown_trans ⟨hB1.os, hB1.tape, hB1.output, hB1.size, fun k hk _ => hB1.block k hk⟩ hgr
    have hSs : HeldE kb mb A x y ws := hS1.grown hgr (fun e => hk (Option.some.inj e)) (fun e => hA (Option.some.inj e))
    have HS1 : Hid (HeldE kb mb A x y w1) := hS1
    have HSs : Hid (HeldE kb mb A x y ws) := hSs
    clear hput hmS hgr hszs hok hoks hm hS1 hSs
    go_wp2_with fail
    refine hK.out _ _ HS1.out (fun hHeld => ?_)
    clear hK K
    unfold plV
    refine wpAnyH_ready (rs := [4]) (by kernel_rfl) (by simp) ?_
    refine (AllReadyH.cons rfl (fun K hK => ?_) AllReadyH.nil)
    · go_simp
      refine hK.out _ _ HSs.out (fun hHeld => ?_)
      clear hK K
      refine wpAnyH_done (by kernel_rfl) ?_ _
      exact ⟨(fun e => by cases e), h _ _ _ _ _ HMS.out HG.out⟩
end Go.Proofs.Ytafhpplhlmlfhaa
