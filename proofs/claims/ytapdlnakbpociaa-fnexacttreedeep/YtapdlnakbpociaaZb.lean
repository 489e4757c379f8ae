/- All lists in a thing, each once and behind those that stand in it: the mathematics of a walk with a stack and a map that counts. -/
import Derived.Test.YtapdlnakbpociaaSa
namespace Go.Proofs.Ytapdlnakbpociaa
/-- lists with lists right below, told apart by places -/
structure LSys where
  A : Type
  len : A → Nat
  kid : A → Nat → A
  size : A → Nat
  pl : A → Pl
  ok : A → Prop
  ok_kid : ∀ {a : A} {i : Nat}, ok a → i < len a → ok (kid a i)
  small : ∀ {a : A} {i : Nat}, ok a → i < len a → size (kid a i) < size a
  inj : ∀ {a b : A}, ok a → ok b → pl a = pl b → a = b ∨ (size a = size b ∧ len a = len b ∧ ∀ i, i < len a → pl (kid a i) = pl (kid b i))
section
variable (Y : LSys)
def LSys.sumTo (a : Y.A) : Nat → Nat
  | 0 => 0
  | n + 1 => LSys.sumTo a n + (Y.size (Y.kid a n) + 1)
/-- the lists right below that were not met -/
def LSys.unm (M : Pl → Nat) (a : Y.A) : Nat → List Y.A
  | 0 => []
  | n + 1 => LSys.unm M a n ++ (if M (Y.pl (Y.kid a n)) = 0 then [Y.kid a n] else [])
theorem LSys.unm_mem {M : Pl → Nat} {a : Y.A} {n : Nat} {u : Y.A} : u ∈ Y.unm M a n ↔ ∃ i, i < n ∧ u = Y.kid a i ∧ M (Y.pl (Y.kid a i)) = 0 := by
  induction n with
  | zero =>
    constructor
    · intro h; exact absurd h List.not_mem_nil
    · rintro ⟨i, h, _⟩; exact absurd h (Nat.not_lt_zero _)
  | succ n ih =>
    show u ∈ Y.unm M a n ++ (if M (Y.pl (Y.kid a n)) = 0 then [Y.kid a n] else []) ↔ _
    rw [List.mem_append, ih]
    constructor
    · rintro (⟨i, h1, h2⟩ | h)
      · exact ⟨i, by omega, h2⟩
      · split at h
        · rename_i h0
          rw [List.mem_singleton] at h
          exact ⟨n, by omega, h, h0⟩
        · exact absurd h List.not_mem_nil
    · rintro ⟨i, h1, h2, h3⟩
      by_cases e : i = n
      · subst e
        right
        rw [if_pos h3, h2]
        exact List.mem_singleton.2 rfl
      · exact .inl ⟨i, by omega, h2, h3⟩
/-- one more -/
def bump (M : Pl → Nat) (p : Pl) : Pl → Nat := fun q => if q = p then M p + 1 else M q
theorem bump_same (M : Pl → Nat) (p : Pl) : bump M p p = M p + 1 := if_pos rfl
theorem bump_other {M : Pl → Nat} {p q : Pl} (h : q ≠ p) : bump M p q = M q := if_neg h
theorem bump_le (M : Pl → Nat) (p q : Pl) : M q ≤ bump M p q := by
  by_cases e : q = p
  · subst e; rw [bump_same]; omega
  · rw [bump_other e]; omega
/-- what the walk keeps: S the stack, M how often a list was met, pre what was told -/
structure Inv (top : Y.A) (S : List Y.A) (M : Pl → Nat) (pre : List Y.A) : Prop where
  oks : ∀ y ∈ S, Y.ok y
  okp : ∀ y ∈ pre, Y.ok y
  okm : ∀ p, M p ≠ 0 → ∃ y, Y.ok y ∧ Y.pl y = p
  told : ∀ p, 2 ≤ M p → ∃ z ∈ pre, Y.pl z = p
  opn : ∀ p, M p = 1 → ∃ A y B, S = A ++ y :: B ∧ Y.pl y = p ∧ (∀ z ∈ B, Y.pl z ≠ p ∧ Y.size z < Y.size y) ∧ ∀ i, i < Y.len y → 2 ≤ M (Y.pl (Y.kid y i)) ∨ ∃ z ∈ B, Y.pl z = Y.pl (Y.kid y i)
  top : M (Y.pl top) ≠ 0 ∨ top ∈ S
theorem Inv.start {top : Y.A} (h : Y.ok top) : Inv Y top [top] (fun _ => 0) [] where
  oks := fun y hy => by rw [List.mem_singleton] at hy; subst hy; exact h
  okp := fun y hy => absurd hy List.not_mem_nil
  okm := fun p hp => absurd rfl hp
  told := fun p hp => by omega
  opn := fun p hp => by cases hp
  top := .inr (List.mem_singleton.2 rfl)
theorem Inv.done {top : Y.A} {M : Pl → Nat} {pre : List Y.A} (h : Inv Y top [] M pre) : ∃ z ∈ pre, Y.pl z = Y.pl top := by
  have h0 : M (Y.pl top) ≠ 0 := by rcases h.top with h | h; exact h; exact absurd h List.not_mem_nil
  by_cases h1 : M (Y.pl top) = 1
  · obtain ⟨A, y, B, e, _⟩ := h.opn _ h1
    exact absurd (congrArg List.length e) (by simp)
  · exact h.told _ (by omega)
/-- the last of a stack is the open one, or stands above it -/
theorem split_last {α : Type} {S A B : List α} {y z : α} (h : S ++ [y] = A ++ z :: B) : (B = [] ∧ z = y ∧ A = S) ∨ ∃ B', B = B' ++ [y] ∧ S = A ++ z :: B' := by
  rcases List.eq_nil_or_concat B with rfl | ⟨B', b, rfl⟩
  · left
    have h' : S ++ [y] = A ++ [z] := h
    have := List.append_inj' h' rfl
    exact ⟨rfl, by simpa using this.2.symm, this.1.symm⟩
  · right
    rw [List.concat_eq_append] at h ⊢
    have h' : S ++ [y] = (A ++ z :: B') ++ [b] := by rw [h]; simp
    have := List.append_inj' h' rfl
    have e : y = b := by simpa using this.2
    exact ⟨B', by rw [e], this.1⟩
theorem Inv.again {top y : Y.A} {S : List Y.A} {M : Pl → Nat} {pre : List Y.A} (h : Inv Y top (S ++ [y]) M pre) (hm : 2 ≤ M (Y.pl y)) : Inv Y top S (bump M (Y.pl y)) pre where
  oks := fun z hz => h.oks z (List.mem_append_left _ hz)
  okp := h.okp
  okm := fun p hp => by
    by_cases e : p = Y.pl y
    · exact ⟨y, h.oks y (by simp), e.symm⟩
    · rw [bump_other e] at hp; exact h.okm p hp
  told := fun p hp => by
    by_cases e : p = Y.pl y
    · rw [e]; exact h.told _ hm
    · rw [bump_other e] at hp; exact h.told p hp
  opn := fun p hp => by
    by_cases e : p = Y.pl y
    · subst e; rw [bump_same] at hp; omega
    · rw [bump_other e] at hp
      obtain ⟨A, z, B, e1, e2, e3, e4⟩ := h.opn p hp
      rcases split_last e1 with ⟨_, rfl, _⟩ | ⟨B', rfl, e5⟩
      · exact absurd e2.symm e
      · refine ⟨A, z, B', e5, e2, fun u hu => e3 u (List.mem_append_left _ hu), fun i hi => ?_⟩
        rcases e4 i hi with h4 | ⟨u, hu, e6⟩
        · exact .inl (Nat.le_trans h4 (bump_le _ _ _))
        · rcases List.mem_append.1 hu with hu | hu
          · exact .inr ⟨u, hu, e6⟩
          · rw [List.mem_singleton] at hu
            subst hu
            rw [← e6, bump_same]
            exact .inl (by omega)
  top := by
    rcases h.top with h1 | h1
    · exact .inl (by have := bump_le M (Y.pl y) (Y.pl top); omega)
    · rcases List.mem_append.1 h1 with h1 | h1
      · exact .inr h1
      · rw [List.mem_singleton] at h1
        subst h1
        rw [bump_same]
        exact .inl (by omega)
theorem Inv.tell {top y : Y.A} {S : List Y.A} {M : Pl → Nat} {pre : List Y.A} (h : Inv Y top (S ++ [y]) M pre) (hm : M (Y.pl y) = 1) :
    (∀ i, i < Y.len y → ∃ z ∈ pre, Y.pl z = Y.pl (Y.kid y i)) ∧ Inv Y top S (bump M (Y.pl y)) (pre ++ [y]) := by
  constructor
  · intro i hi
    obtain ⟨A, z, B, e1, e2, e3, e4⟩ := h.opn _ hm
    rcases split_last e1 with ⟨rfl, rfl, _⟩ | ⟨B', rfl, _⟩
    · rcases e4 i hi with h4 | ⟨u, hu, _⟩
      · exact h.told _ h4
      · exact absurd hu List.not_mem_nil
    · exact absurd rfl (e3 y (by simp)).1
  · refine ⟨fun z hz => h.oks z (List.mem_append_left _ hz), fun z hz => ?_, fun p hp => ?_, fun p hp => ?_, fun p hp => ?_, ?_⟩
    · rcases List.mem_append.1 hz with hz | hz
      · exact h.okp z hz
      · rw [List.mem_singleton] at hz; subst hz; exact h.oks z (by simp)
    · by_cases e : p = Y.pl y
      · exact ⟨y, h.oks y (by simp), e.symm⟩
      · rw [bump_other e] at hp; exact h.okm p hp
    · by_cases e : p = Y.pl y
      · exact ⟨y, by simp, e.symm⟩
      · rw [bump_other e] at hp
        obtain ⟨z, hz, e'⟩ := h.told p hp
        exact ⟨z, List.mem_append_left _ hz, e'⟩
    · by_cases e : p = Y.pl y
      · subst e; rw [bump_same] at hp; omega
      · rw [bump_other e] at hp
        obtain ⟨A, z, B, e1, e2, e3, e4⟩ := h.opn p hp
        rcases split_last e1 with ⟨_, rfl, _⟩ | ⟨B', rfl, e5⟩
        · exact absurd e2.symm e
        · refine ⟨A, z, B', e5, e2, fun u hu => e3 u (List.mem_append_left _ hu), fun i hi => ?_⟩
          rcases e4 i hi with h4 | ⟨u, hu, e6⟩
          · exact .inl (Nat.le_trans h4 (bump_le _ _ _))
          · rcases List.mem_append.1 hu with hu | hu
            · exact .inr ⟨u, hu, e6⟩
            · rw [List.mem_singleton] at hu
              subst hu
              rw [← e6, bump_same]
              exact .inl (by omega)
    · rcases h.top with h1 | h1
      · exact .inl (by have := bump_le M (Y.pl y) (Y.pl top); omega)
      · rcases List.mem_append.1 h1 with h1 | h1
        · exact .inr h1
        · rw [List.mem_singleton] at h1
          subst h1
          rw [bump_same]
          exact .inl (by omega)
theorem LSys.size_inj {a b : Y.A} (ha : Y.ok a) (hb : Y.ok b) (h : Y.pl a = Y.pl b) : Y.size a = Y.size b := by
  rcases Y.inj ha hb h with e | e
  · rw [e]
  · exact e.1
theorem Inv.open_ {top y : Y.A} {S : List Y.A} {M : Pl → Nat} {pre : List Y.A} (h : Inv Y top (S ++ [y]) M pre) (hm : M (Y.pl y) = 0) :
    Inv Y top (S ++ [y] ++ Y.unm (bump M (Y.pl y)) y (Y.len y)) (bump M (Y.pl y)) pre := by
  have hy := h.oks y (by simp)
  have hku : ∀ i, i < Y.len y → Y.pl (Y.kid y i) ≠ Y.pl y := fun i hi e => by
    have h1 := Y.size_inj (Y.ok_kid hy hi) hy e
    have h2 := Y.small hy hi
    omega
  refine ⟨fun z hz => ?_, h.okp, fun p hp => ?_, fun p hp => ?_, fun p hp => ?_, ?_⟩
  · rcases List.mem_append.1 hz with hz | hz
    · exact h.oks z hz
    · obtain ⟨i, hi, rfl, _⟩ := (Y.unm_mem).1 hz
      exact Y.ok_kid hy hi
  · by_cases e : p = Y.pl y
    · exact ⟨y, hy, e.symm⟩
    · rw [bump_other e] at hp; exact h.okm p hp
  · by_cases e : p = Y.pl y
    · subst e; rw [bump_same] at hp; omega
    · rw [bump_other e] at hp; exact h.told p hp
  · by_cases e : p = Y.pl y
    · subst e
      refine ⟨S, y, Y.unm (bump M (Y.pl y)) y (Y.len y), by simp, rfl, fun z hz => ?_, fun i hi => ?_⟩
      · obtain ⟨i, hi, rfl, _⟩ := (Y.unm_mem).1 hz
        exact ⟨hku i hi, Y.small hy hi⟩
      · by_cases h0 : bump M (Y.pl y) (Y.pl (Y.kid y i)) = 0
        · exact .inr ⟨Y.kid y i, (Y.unm_mem).2 ⟨i, hi, rfl, h0⟩, rfl⟩
        · left
          rw [bump_other (hku i hi)] at h0 ⊢
          by_cases h1 : M (Y.pl (Y.kid y i)) = 1
          · exfalso
            obtain ⟨A, z, B, e1, e2, e3, _⟩ := h.opn _ h1
            have hz : Y.ok z := h.oks z (by rw [e1]; simp)
            have hs := Y.size_inj hz (Y.ok_kid hy hi) e2
            have hk := Y.small hy hi
            rcases split_last e1 with ⟨_, rfl, _⟩ | ⟨B', rfl, _⟩
            · exact hku i hi e2.symm
            · have := (e3 y (by simp)).2
              omega
          · omega
    · rw [bump_other e] at hp
      obtain ⟨A, z, B, e1, e2, e3, e4⟩ := h.opn p hp
      rcases split_last e1 with ⟨_, rfl, _⟩ | ⟨B', rfl, e5⟩
      · exact absurd e2.symm e
      · refine ⟨A, z, B' ++ [y] ++ Y.unm (bump M (Y.pl y)) y (Y.len y), by rw [e5]; simp, e2, fun u hu => ?_, fun i hi => ?_⟩
        · rcases List.mem_append.1 hu with hu | hu
          · exact e3 u hu
          · obtain ⟨i, hi, rfl, h0⟩ := (Y.unm_mem).1 hu
            refine ⟨fun e' => ?_, ?_⟩
            · rw [e'] at h0
              rw [bump_other e] at h0
              omega
            · have h1 := (e3 y (by simp)).2
              have h2 := Y.small hy hi
              omega
        · rcases e4 i hi with h4 | ⟨u, hu, e6⟩
          · exact .inl (Nat.le_trans h4 (bump_le _ _ _))
          · exact .inr ⟨u, List.mem_append_left _ hu, e6⟩
  · rcases h.top with h1 | h1
    · exact .inl (by have := bump_le M (Y.pl y) (Y.pl top); omega)
    · exact .inr (List.mem_append_left _ h1)
/-- how much is to be done -/
def LSys.cost (M : Pl → Nat) : List Y.A → Nat
  | [] => 0
  | y :: t => (if M (Y.pl y) = 0 then 2 * (Y.size y + 1) else 1) + LSys.cost M t
theorem LSys.cost_append (M : Pl → Nat) (A B : List Y.A) : Y.cost M (A ++ B) = Y.cost M A + Y.cost M B := by
  induction A with
  | nil => show Y.cost M B = 0 + Y.cost M B; omega
  | cons y t ih => show _ + Y.cost M (t ++ B) = _ + Y.cost M t + Y.cost M B; rw [ih]; omega
theorem LSys.cost_length (M : Pl → Nat) (A : List Y.A) : A.length ≤ Y.cost M A := by
  induction A with
  | nil => exact Nat.le_refl _
  | cons y t ih =>
    show t.length + 1 ≤ (if M (Y.pl y) = 0 then 2 * (Y.size y + 1) else 1) + Y.cost M t
    split <;> omega
theorem LSys.cost_bump (M : Pl → Nat) (p : Pl) (A : List Y.A) : Y.cost (bump M p) A ≤ Y.cost M A := by
  induction A with
  | nil => exact Nat.le_refl _
  | cons y t ih =>
    show (if bump M p (Y.pl y) = 0 then 2 * (Y.size y + 1) else 1) + Y.cost (bump M p) t ≤ (if M (Y.pl y) = 0 then 2 * (Y.size y + 1) else 1) + Y.cost M t
    have hb := bump_le M p (Y.pl y)
    by_cases h0 : bump M p (Y.pl y) = 0
    · rw [if_pos h0, if_pos (by omega)]; omega
    · rw [if_neg h0]
      split <;> omega
theorem LSys.cost_unm (M : Pl → Nat) (a : Y.A) (n : Nat) : Y.cost M (Y.unm M a n) ≤ 2 * Y.sumTo a n := by
  induction n with
  | zero => exact Nat.le_refl _
  | succ n ih =>
    show Y.cost M (Y.unm M a n ++ (if M (Y.pl (Y.kid a n)) = 0 then [Y.kid a n] else [])) ≤ 2 * (Y.sumTo a n + (Y.size (Y.kid a n) + 1))
    rw [Y.cost_append]
    split
    · rename_i h0
      have e : Y.cost M [Y.kid a n] = (if M (Y.pl (Y.kid a n)) = 0 then 2 * (Y.size (Y.kid a n) + 1) else 1) + 0 := rfl
      rw [e, if_pos h0]
      omega
    · show Y.cost M (Y.unm M a n) + 0 ≤ _
      omega
theorem LSys.cost_one (M : Pl → Nat) (y : Y.A) : Y.cost M [y] = if M (Y.pl y) = 0 then 2 * (Y.size y + 1) else 1 := by
  show (if M (Y.pl y) = 0 then 2 * (Y.size y + 1) else 1) + 0 = _; omega
theorem LSys.cost_open (M : Pl → Nat) (S : List Y.A) (y : Y.A) (hm : M (Y.pl y) = 0) (hs : Y.sumTo y (Y.len y) ≤ Y.size y) : Y.cost (bump M (Y.pl y)) (S ++ [y] ++ Y.unm (bump M (Y.pl y)) y (Y.len y)) + 1 ≤ Y.cost M (S ++ [y]) := by
  rw [Y.cost_append, Y.cost_append, Y.cost_append, Y.cost_one, Y.cost_one, bump_same, if_neg (by omega), if_pos hm]
  have h1 := Y.cost_bump M (Y.pl y) S
  have h2 := Y.cost_unm (bump M (Y.pl y)) y (Y.len y)
  omega
theorem LSys.cost_pop (M : Pl → Nat) (S : List Y.A) (y : Y.A) : Y.cost (bump M (Y.pl y)) S + 1 ≤ Y.cost M (S ++ [y]) := by
  rw [Y.cost_append, Y.cost_one]
  have h1 := Y.cost_bump M (Y.pl y) S
  split <;> omega
end
end Go.Proofs.Ytapdlnakbpociaa
