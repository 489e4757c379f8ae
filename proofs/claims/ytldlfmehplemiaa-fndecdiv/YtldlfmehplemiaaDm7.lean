/- Plain mathematics of sums of three and of products of sums: no program in it. -/
import Derived.Test.YtldlfmehplemiaaDm6
namespace Go.Proofs.Ytldlfmehplemiaa.Dm
theorem new_norm_of {m e : Int} (h : (new m e).2.2 = true) : new m e = norm m e := by
  unfold new at h ⊢
  by_cases hh : (-100000000000000000 ≤ m ∧ m ≤ 100000000000000000) ∧ (-32 ≤ e ∧ e ≤ 32)
  · rw [if_pos hh]
  · rw [if_neg hh] at h; simp at h
theorem manAt_bigv {m x p : Int} (hp : p ≤ x) (hp2 : -40 ≤ p) (h : (manAt m x p).2 = true) : (manAt m x p).1 * p10 (p + 40) = big m x := by
  rw [big_at hp hp2]
  unfold manAt at h ⊢
  by_cases h0 : m = 0
  · rw [if_pos h0]; subst h0; simp
  · rw [if_neg h0] at h ⊢
    by_cases h8 : 8 < x - p
    · rw [if_pos h8] at h; simp at h
    · rw [if_neg h8]
theorem add_val {m x n y : Int} (h : (add m x n y).2.2 = true) : ok m x = true ∧ ok n y = true ∧ ok (add m x n y).1 (add m x n y).2.1 = true ∧ big (add m x n y).1 (add m x n y).2.1 = big m x + big n y := by
  obtain ⟨hm, hn⟩ := add_ok h
  have bm := ok_bd hm
  have bn := ok_bd hn
  refine ⟨hm, hn, ?_⟩
  have e : add m x n y = add1 m x n y := by rw [add, if_pos ⟨hm, hn⟩]
  rw [e] at h ⊢
  unfold add1 at h ⊢
  by_cases hc : (manAt m x (min x y)).2 = true ∧ (manAt n y (min x y)).2 = true
  · rw [if_pos hc] at h ⊢
    have en := new_norm_of h
    rw [en] at h ⊢
    refine ⟨norm_ok h, ?_⟩
    rw [norm_big_eq (by omega) h, big, Int.add_mul, manAt_bigv (by omega) (by omega) hc.1, manAt_bigv (by omega) (by omega) hc.2]
  · rw [if_neg hc] at h; simp at h
theorem mul_val {m x n y : Int} (h : (mul m x n y).2.2 = true) : ok m x = true ∧ ok n y = true ∧ ok (mul m x n y).1 (mul m x n y).2.1 = true ∧ big (mul m x n y).1 (mul m x n y).2.1 * p10 40 = big m x * big n y := by
  have hh : ok m x = true ∧ ok n y = true := by
    unfold mul at h
    by_cases hh : ok m x = true ∧ ok n y = true
    · exact hh
    · rw [if_neg hh] at h; simp at h
  obtain ⟨hm, hn⟩ := hh
  have bm := ok_bd hm
  have bn := ok_bd hn
  refine ⟨hm, hn, ?_⟩
  have e : mul m x n y = norm (m * n) (x + y) := by rw [mul, if_pos ⟨hm, hn⟩]
  rw [e] at h ⊢
  refine ⟨norm_ok h, ?_⟩
  rw [norm_big_eq (by omega) h]
  unfold big
  have e1 : p10 (x + 40) * p10 (y + 40) = p10 (x + y + 40) * p10 40 := by
    rw [← p10_add (by omega) (by omega), ← p10_add (by omega) (by omega)]; congr 1; omega
  rw [Int.mul_assoc (m * n), ← e1, Int.mul_assoc, Int.mul_assoc, ← Int.mul_assoc n, Int.mul_comm n (p10 (x + 40)), Int.mul_assoc]
theorem eq_of_big {r s : Int × Int × Bool} (hr : r.2.2 = true) (hs : s.2.2 = true) (h1 : ok r.1 r.2.1 = true) (h2 : ok s.1 s.2.1 = true) (h : big r.1 r.2.1 = big s.1 s.2.1) : r = s := by
  obtain ⟨a, b, c⟩ := r
  obtain ⟨d, e, f⟩ := s
  simp only at *
  obtain ⟨e1, e2⟩ := ok_unique h1 h2 h
  rw [e1, e2, hr, hs]
/-- three together, whichever two are first -/
theorem add_assoc3 {m x n y c z : Int} (h1 : (add m x n y).2.2 = true) (h2 : (add n y c z).2.2 = true)
    (h3 : (add (add m x n y).1 (add m x n y).2.1 c z).2.2 = true) (h4 : (add m x (add n y c z).1 (add n y c z).2.1).2.2 = true) :
    add m x (add n y c z).1 (add n y c z).2.1 = add (add m x n y).1 (add m x n y).2.1 c z := by
  obtain ⟨_, _, _, a4⟩ := add_val h1
  obtain ⟨_, _, _, b4⟩ := add_val h2
  obtain ⟨_, _, c3, c4⟩ := add_val h3
  obtain ⟨_, _, d3, d4⟩ := add_val h4
  exact eq_of_big h4 h3 d3 c3 (by rw [c4, d4, a4, b4]; omega)
/-- a sum taken so often is both taken so often, together -/
theorem mul_add3 {m x n y c z : Int} (h1 : (add m x n y).2.2 = true) (h2 : (mul (add m x n y).1 (add m x n y).2.1 c z).2.2 = true)
    (h3 : (mul m x c z).2.2 = true) (h4 : (mul n y c z).2.2 = true) (h5 : (add (mul m x c z).1 (mul m x c z).2.1 (mul n y c z).1 (mul n y c z).2.1).2.2 = true) :
    add (mul m x c z).1 (mul m x c z).2.1 (mul n y c z).1 (mul n y c z).2.1 = mul (add m x n y).1 (add m x n y).2.1 c z := by
  obtain ⟨_, _, _, a4⟩ := add_val h1
  obtain ⟨_, _, b3, b4⟩ := mul_val h2
  obtain ⟨_, _, _, c4⟩ := mul_val h3
  obtain ⟨_, _, _, d4⟩ := mul_val h4
  obtain ⟨_, _, e3, e4⟩ := add_val h5
  refine eq_of_big h5 h2 e3 b3 (p10_cancel (k := 40) ?_)
  rw [e4, Int.add_mul, c4, d4, b4, a4, Int.add_mul]
end Go.Proofs.Ytldlfmehplemiaa.Dm
