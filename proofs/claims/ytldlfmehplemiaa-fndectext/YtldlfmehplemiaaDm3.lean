/- Plain mathematics of what is left: no program in it. -/
import Derived.Test.YtldlfmehplemiaaDm2
namespace Go.Proofs.Ytldlfmehplemiaa.Dm
/-- DecMod -/
def mod (m x n y : Int) : Int × Int × Bool :=
  if (div m x n y 0).2.2 = true then
    if (mul n y (div m x n y 0).1 (div m x n y 0).2.1).2.2 = true then sub m x (mul n y (div m x n y 0).1 (div m x n y 0).2.1).1 (mul n y (div m x n y 0).1 (div m x n y 0).2.1).2.1 else (0, 0, false)
  else (0, 0, false)
theorem norm_ok {m e : Int} (h : (norm m e).2.2 = true) : ok (norm m e).1 (norm m e).2.1 = true := by
  unfold norm at h ⊢
  by_cases h0 : m = 0
  · rw [if_pos h0]; rfl
  · rw [if_neg h0] at h ⊢
    by_cases ho : ok (strip 20 m e).1 (strip 20 m e).2 = true
    · rw [if_pos ho]; exact ho
    · rw [if_neg ho] at h; simp at h
theorem div1_ok {m x n y p : Int} (h : (div1 m x n y p).2.2 = true) : ok (div1 m x n y p).1 (div1 m x n y p).2.1 = true := by
  unfold div1 at h ⊢
  by_cases hq : (quot m n (x - y + p)).2 = true
  · rw [if_pos hq] at h ⊢; exact norm_ok h
  · rw [if_neg hq] at h; simp at h
theorem mod_no {m x n y : Int} (h : ¬ (ok m x = true ∧ ok n y = true ∧ n ≠ 0)) : mod m x n y = (0, 0, false) := by
  have e : div m x n y 0 = (0, 0, false) := by rw [div, if_neg (fun k => h ⟨k.1, k.2.1, k.2.2.1⟩)]
  rw [mod, e]; rfl
theorem mod_div {m x n y : Int} (hm : ok m x = true) (hn : ok n y = true) (h0 : n ≠ 0) : div m x n y 0 = div1 m x n y 0 := by
  rw [div, if_pos ⟨hm, hn, h0, by omega, by omega⟩]
theorem mod_no1 {m x n y : Int} (hm : ok m x = true) (hn : ok n y = true) (h0 : n ≠ 0) (h : (div1 m x n y 0).2.2 = false) : mod m x n y = (0, 0, false) := by
  rw [mod, mod_div hm hn h0, h]; rfl
theorem mod_mul {m x n y : Int} (hn : ok n y = true) (h : (div1 m x n y 0).2.2 = true) : mul n y (div1 m x n y 0).1 (div1 m x n y 0).2.1 = norm ((div1 m x n y 0).1 * n) ((div1 m x n y 0).2.1 + y) := by
  rw [mul, if_pos ⟨hn, div1_ok h⟩, Int.mul_comm, Int.add_comm]
theorem mod_no2 {m x n y : Int} (hm : ok m x = true) (hn : ok n y = true) (h0 : n ≠ 0) (h : (div1 m x n y 0).2.2 = true) (h2 : (norm ((div1 m x n y 0).1 * n) ((div1 m x n y 0).2.1 + y)).2.2 = false) : mod m x n y = (0, 0, false) := by
  rw [mod, mod_div hm hn h0, if_pos h, mod_mul hn h, h2]; rfl
theorem mod_yes {m x n y : Int} (hm : ok m x = true) (hn : ok n y = true) (h0 : n ≠ 0) (h : (div1 m x n y 0).2.2 = true) (h2 : (norm ((div1 m x n y 0).1 * n) ((div1 m x n y 0).2.1 + y)).2.2 = true) :
    mod m x n y = add1 m x (-(norm ((div1 m x n y 0).1 * n) ((div1 m x n y 0).2.1 + y)).1) (norm ((div1 m x n y 0).1 * n) ((div1 m x n y 0).2.1 + y)).2.1 := by
  rw [mod, mod_div hm hn h0, if_pos h, mod_mul hn h, if_pos h2, sub, if_pos ⟨hm, norm_ok h2⟩]
theorem norm_i64 (m e : Int) : -99999999 ≤ (norm m e).1 ∧ (norm m e).1 ≤ 99999999 := by
  by_cases h : (norm m e).2.2 = true
  · have := ok_bd (norm_ok h); omega
  · have : norm m e = (0, 0, false) := by
      unfold norm at h ⊢
      by_cases h0 : m = 0
      · rw [if_pos h0] at h; simp at h
      · rw [if_neg h0] at h ⊢
        by_cases ho : ok (strip 20 m e).1 (strip 20 m e).2 = true
        · rw [if_pos ho] at h; simp at h
        · rw [if_neg ho]
    rw [this]; exact ⟨by decide, by decide⟩
theorem mul_i64 (m x n y : Int) : -99999999 ≤ (mul m x n y).1 ∧ (mul m x n y).1 ≤ 99999999 := by
  unfold mul
  by_cases h : ok m x = true ∧ ok n y = true
  · rw [if_pos h]; exact norm_i64 _ _
  · rw [if_neg h]; exact ⟨by decide, by decide⟩
end Go.Proofs.Ytldlfmehplemiaa.Dm
