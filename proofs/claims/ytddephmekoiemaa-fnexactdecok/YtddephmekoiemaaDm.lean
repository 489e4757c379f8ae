/- Plain mathematics of decimals: no program in it. -/
namespace Go.Proofs.Ytddephmekoiemaa.Dm
theorem tm (m : Int) : 10 * m.tdiv 10 + m.tmod 10 = m := Int.mul_tdiv_add_tmod m 10
theorem tmb (m : Int) : -10 < m.tmod 10 ∧ m.tmod 10 < 10 ∧ (0 ≤ m → 0 ≤ m.tmod 10) ∧ (m ≤ 0 → m.tmod 10 ≤ 0) := by
  refine ⟨?_, ?_, fun h => Int.tmod_nonneg _ h, fun h => ?_⟩
  · by_cases h : 0 ≤ m
    · have := Int.tmod_nonneg 10 h; omega
    · have h1 : (-m).tmod 10 < 10 := Int.tmod_lt_of_pos _ (by omega)
      rw [Int.neg_tmod] at h1; omega
  · exact Int.tmod_lt_of_pos _ (by omega)
  · have h1 : 0 ≤ (-m).tmod 10 := Int.tmod_nonneg _ (by omega)
    rw [Int.neg_tmod] at h1; omega
def strip : Nat → Int → Int → Int × Int
  | 0, m, e => (m, e)
  | k + 1, m, e => if m.tmod 10 = 0 then strip k (m.tdiv 10) (e + 1) else (m, e)

/-- one more of fuel than is needed changes nothing -/
theorem strip_succ (k : Nat) : ∀ (m e : Int), m ≠ 0 → m.natAbs < 10 ^ k → strip (k + 1) m e = strip k m e := by
  induction k with
  | zero => intro m e h0 h; simp at h; omega
  | succ k ih =>
    intro m e h0 h
    rw [strip]
    conv => rhs; rw [strip]
    by_cases hz : m.tmod 10 = 0
    · rw [if_pos hz, if_pos hz]
      have := tm m
      rw [hz] at this
      apply ih
      · omega
      · rw [Nat.pow_succ] at h; omega
    · rw [if_neg hz, if_neg hz]
theorem strip_more (k j : Nat) (m e : Int) (h0 : m ≠ 0) (h : m.natAbs < 10 ^ k) : strip (k + j) m e = strip k m e := by
  induction j with
  | zero => rfl
  | succ j ih =>
    rw [← Nat.add_assoc, strip_succ _ _ _ h0 (Nat.lt_of_lt_of_le h (Nat.pow_le_pow_right (by omega) (by omega))), ih]
theorem strip_ne (k : Nat) : ∀ (m e : Int), m ≠ 0 → (strip k m e).1 ≠ 0 := by
  induction k with
  | zero => intro m e h; exact h
  | succ k ih =>
    intro m e h
    rw [strip]
    by_cases hz : m.tmod 10 = 0
    · rw [if_pos hz]; have := tm m; apply ih; omega
    · rw [if_neg hz]; exact h
theorem strip_at (k : Nat) (m e : Int) (h : m.tmod 10 ≠ 0) : strip k m e = (m, e) := by
  cases k with
  | zero => rfl
  | succ k => rw [strip, if_neg h]

/-- in its form -/
def ok (m e : Int) : Bool := if m = 0 then e == 0 else decide (-99999999 ≤ m) && decide (m ≤ 99999999) && decide (-8 ≤ e) && decide (e ≤ 8) && (m.tmod 10 != 0)
theorem ok_iff (m e : Int) : ok m e = true ↔ (m = 0 ∧ e = 0) ∨ (m ≠ 0 ∧ -99999999 ≤ m ∧ m ≤ 99999999 ∧ -8 ≤ e ∧ e ≤ 8 ∧ m.tmod 10 ≠ 0) := by
  unfold ok
  by_cases h : m = 0 <;> simp [h, and_assoc]
end Go.Proofs.Ytddephmekoiemaa.Dm
