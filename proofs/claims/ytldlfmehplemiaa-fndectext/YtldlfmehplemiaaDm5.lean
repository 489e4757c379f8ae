/- Plain mathematics for the laws of sums and differences: no program in it. -/
import Derived.Test.YtldlfmehplemiaaDm3
namespace Go.Proofs.Ytldlfmehplemiaa.Dm
def neg3 (r : Int × Int × Bool) : Int × Int × Bool := (-r.1, r.2.1, r.2.2)
theorem strip_neg (k : Nat) : ∀ m e : Int, strip k (-m) e = (-(strip k m e).1, (strip k m e).2) := by
  induction k with
  | zero => intro m e; rfl
  | succ k ih =>
    intro m e
    rw [strip, strip, Int.neg_tmod, Int.neg_tdiv]
    by_cases h : m.tmod 10 = 0
    · rw [if_pos h, if_pos (by omega), ih]
    · rw [if_neg h, if_neg (by omega)]
theorem norm_neg (m e : Int) : norm (-m) e = neg3 (norm m e) := by
  unfold norm neg3
  by_cases h : m = 0
  · subst h; simp
  · rw [if_neg h, if_neg (by omega), strip_neg, ok_neg]
    by_cases ho : ok (strip 20 m e).1 (strip 20 m e).2 = true
    · rw [if_pos ho, if_pos ho]
    · rw [if_neg ho, if_neg ho]; rfl
theorem new_neg (m e : Int) : new (-m) e = neg3 (new m e) := by
  unfold new
  by_cases h : (-100000000000000000 ≤ m ∧ m ≤ 100000000000000000) ∧ (-32 ≤ e ∧ e ≤ 32)
  · rw [if_pos h, if_pos (by omega), norm_neg]
  · rw [if_neg h, if_neg (by omega)]; rfl
theorem manAt_neg (m x p : Int) : manAt (-m) x p = (-(manAt m x p).1, (manAt m x p).2) := by
  unfold manAt
  by_cases h : m = 0
  · subst h; simp
  · rw [if_neg h, if_neg (by omega)]
    by_cases h8 : 8 < x - p
    · rw [if_pos h8, if_pos h8]; rfl
    · rw [if_neg h8, if_neg h8, Int.neg_mul]
theorem add1_neg (m x n y : Int) : add1 (-m) x (-n) y = neg3 (add1 m x n y) := by
  unfold add1
  rw [manAt_neg, manAt_neg]
  by_cases h : (manAt m x (min x y)).2 = true ∧ (manAt n y (min x y)).2 = true
  · rw [if_pos h, if_pos h, ← Int.neg_add, new_neg]
  · rw [if_neg h, if_neg h]; rfl
theorem sub_swap (m x n y : Int) : sub n y m x = neg3 (sub m x n y) := by
  unfold sub
  by_cases h : ok m x = true ∧ ok n y = true
  · rw [if_pos h, if_pos ⟨h.2, h.1⟩, add_comm1, show n = -(-n) from by omega, add1_neg, Int.neg_neg]
  · rw [if_neg h, if_neg (fun k => h ⟨k.2, k.1⟩)]; rfl
theorem new_zero {x : Int} (h : -32 ≤ x ∧ x ≤ 32) : new 0 x = (0, 0, true) := by
  rw [new, if_pos ⟨⟨by omega, by omega⟩, h⟩]; rfl
theorem sub_self {m x : Int} (h : ok m x = true) : sub m x m x = (0, 0, true) := by
  have b := ok_bd h
  have e : min x x = x := by omega
  have hm : (manAt m x x).2 = true := by unfold manAt; by_cases h0 : m = 0 <;> simp [h0]
  rw [sub, if_pos ⟨h, h⟩, add1, e, manAt_neg, if_pos ⟨hm, hm⟩]
  rw [show (manAt m x x).1 + (-(manAt m x x).1, (manAt m x x).2).1 = 0 from by simp only; omega]
  exact new_zero (by omega)
theorem sub_ok {m x n y : Int} (h : (sub m x n y).2.2 = true) : ok m x = true ∧ ok n y = true := by
  unfold sub at h
  by_cases hh : ok m x = true ∧ ok n y = true
  · exact hh
  · rw [if_neg hh] at h; simp at h
theorem new_i64 (m e : Int) : -99999999 ≤ (new m e).1 ∧ (new m e).1 ≤ 99999999 := by
  unfold new
  by_cases h : (-100000000000000000 ≤ m ∧ m ≤ 100000000000000000) ∧ (-32 ≤ e ∧ e ≤ 32)
  · rw [if_pos h]; exact norm_i64 _ _
  · rw [if_neg h]; exact ⟨by decide, by decide⟩
theorem add1_i64 (m x n y : Int) : -99999999 ≤ (add1 m x n y).1 ∧ (add1 m x n y).1 ≤ 99999999 := by
  unfold add1
  by_cases h : (manAt m x (min x y)).2 = true ∧ (manAt n y (min x y)).2 = true
  · rw [if_pos h]; exact new_i64 _ _
  · rw [if_neg h]; exact ⟨by decide, by decide⟩
theorem sub_i64 (m x n y : Int) : -99999999 ≤ (sub m x n y).1 ∧ (sub m x n y).1 ≤ 99999999 := by
  unfold sub
  by_cases h : ok m x = true ∧ ok n y = true
  · rw [if_pos h]; exact add1_i64 _ _ _ _
  · rw [if_neg h]; exact ⟨by decide, by decide⟩
theorem mul_comm3 (m x n y : Int) : mul n y m x = mul m x n y := by
  unfold mul
  by_cases h : ok m x = true ∧ ok n y = true
  · rw [if_pos h, if_pos ⟨h.2, h.1⟩, Int.mul_comm, Int.add_comm]
  · rw [if_neg h, if_neg (fun k => h ⟨k.2, k.1⟩)]
theorem mul_one3 {m x : Int} (h : ok m x = true) : mul m x 1 0 = (m, x, true) := by
  rw [mul, if_pos ⟨h, by decide⟩, Int.mul_one, Int.add_zero, norm_self h]
theorem mul_zero3 {m x : Int} (h : ok m x = true) : mul m x 0 0 = (0, 0, true) := by
  rw [mul, if_pos ⟨h, by decide⟩, Int.mul_zero]; rfl
theorem add_comm3 (m x n y : Int) : add n y m x = add m x n y := by
  unfold add
  by_cases h : ok m x = true ∧ ok n y = true
  · rw [if_pos h, if_pos ⟨h.2, h.1⟩, add_comm1]
  · rw [if_neg h, if_neg (fun k => h ⟨k.2, k.1⟩)]
theorem add_zero3 {m x : Int} (h : ok m x = true) : add m x 0 0 = (m, x, true) := by
  rw [add, if_pos ⟨h, by decide⟩, add_comm1, add_zero_left h]
theorem add_ok {m x n y : Int} (h : (add m x n y).2.2 = true) : ok m x = true ∧ ok n y = true := by
  unfold add at h
  by_cases hh : ok m x = true ∧ ok n y = true
  · exact hh
  · rw [if_neg hh] at h; simp at h
end Go.Proofs.Ytldlfmehplemiaa.Dm
