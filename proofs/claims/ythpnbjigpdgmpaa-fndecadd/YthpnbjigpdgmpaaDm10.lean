/- Plain mathematics: a difference that has room is found. No program in it. -/
import Derived.Test.YthpnbjigpdgmpaaDm8
namespace Go.Proofs.Ythpnbjigpdgmpaa.Dm
theorem big_zero' (m x : Int) : big m x = 0 ↔ m = 0 := by
  have h := big_sgn m x
  have s1 := sgn_iff (big m x)
  have s2 := sgn_iff m
  rw [h] at s1
  omega
theorem strip_pow (k : Nat) : ∀ (j : Nat) (c p : Int), c.tmod 10 ≠ 0 → k ≤ j → strip j (c * 10 ^ k) p = (c, p + k) := by
  induction k with
  | zero => intro j c p h _; rw [Int.pow_zero, Int.mul_one, strip_at _ _ _ h]; simp
  | succ k ih =>
    intro j c p h hj
    obtain ⟨i, rfl⟩ : ∃ i, j = i + 1 := ⟨j - 1, by omega⟩
    have e : c * 10 ^ (k + 1) = c * 10 ^ k * 10 := by rw [Int.pow_succ, Int.mul_assoc]
    rw [e, strip, if_pos (Int.mul_tmod_left _ _), Int.mul_tdiv_cancel _ (by omega), ih i c (p + 1) h (by omega)]
    simp; omega
theorem big_shift {c z p : Int} (hp : p ≤ z) (hp2 : -40 ≤ p) {v : Int} (h : big v p = big c z) : v = c * p10 (z - p) := by
  rw [big_at (m := c) hp hp2, big] at h
  exact p10_cancel h
theorem not_below {c z p v : Int} (hc : ok c z = true) (h0 : c ≠ 0) (hp : -40 ≤ z) (h : big v p = big c z) : p ≤ z := by
  by_cases hlt : z < p
  · have e := big_shift (c := v) (z := p) (p := z) (by omega) hp (v := c) h.symm
    exact absurd (e ▸ p10_tmod (p - z) (by omega) v) (ok_ne hc h0)
  · omega
theorem norm_find {c z p v : Int} (hc : ok c z = true) (p1 : -8 ≤ p) (p2 : p ≤ 8) (h : big v p = big c z) : norm v p = (c, z, true) := by
  have b := ok_bd hc
  by_cases h0 : c = 0
  · have hz : z = 0 := by rw [ok_iff] at hc; omega
    have hv : v = 0 := by rw [← big_zero' v p, h, h0]; unfold big; simp
    subst h0 hz hv; rfl
  · have hle := not_below hc h0 (by omega) h
    have e := big_shift hle (by omega) h
    have hs : strip 20 v p = (c, z) := by
      rw [e]; unfold p10
      rw [strip_pow _ 20 c p (ok_ne hc h0) (by omega)]
      congr 1; omega
    have hv : v ≠ 0 := fun k => h0 (by rw [k] at e; rcases Int.mul_eq_zero.1 e.symm with h | h; exact h; exact absurd h (p10_ne _))
    rw [norm, if_neg hv, hs]
    simp only [hc, if_true]
theorem manAt_find {m x n y c z : Int} (hm : ok m x = true) (hn : ok n y = true) (hc : ok c z = true) (h : big c z = big m x - big n y) : (manAt m x (min x y)).2 = true := by
  cases hf : (manAt m x (min x y)).2
  · exfalso
    obtain ⟨h0, h8⟩ := manAt_far hf
    have bm := ok_bd hm
    have bn := ok_bd hn
    have bc := ok_bd hc
    rw [show min x y = y from by omega] at h8
    have hn0 : n ≠ 0 := by intro k; have : y = 0 := by rw [ok_iff] at hn; omega
                           omega
    have hc0 : c ≠ 0 := by
      intro k
      have e : big c z = 0 := by rw [k]; unfold big; simp
      have := ok_unique hm hn (by omega)
      omega
    have hm10 := p10_nine h8
    rcases Int.lt_trichotomy z y with hz | hz | hz
    · have e : c = (m * p10 (x - y) - n) * p10 (y - z) := by
        apply p10_cancel (k := z + 40)
        rw [Int.mul_assoc, ← p10_add (by omega) (by omega), show y - z + (z + 40) = y + 40 from by omega, Int.sub_mul, ← big_at (by omega) (by omega)]
        exact h
      exact absurd (e ▸ p10_tmod (y - z) (by omega) _) (ok_ne hc hc0)
    · subst hz
      have e : c = m * p10 (x - z) - n := by
        apply p10_cancel (k := z + 40)
        rw [Int.sub_mul, ← big_at (by omega) (by omega)]
        exact h
      rcases Int.lt_or_gt_of_ne h0 with h1 | h1
      · have : 1 * p10 (x - z) ≤ (-m) * p10 (x - z) := Int.mul_le_mul_of_nonneg_right (by omega) (by omega)
        rw [Int.neg_mul] at this; omega
      · have : 1 * p10 (x - z) ≤ m * p10 (x - z) := Int.mul_le_mul_of_nonneg_right (by omega) (by omega)
        omega
    · have e : n = (m * p10 (x - y - 1) - c * p10 (z - y - 1)) * p10 1 := by
        apply p10_cancel (k := y + 40)
        rw [Int.mul_assoc, ← p10_add (by omega) (by omega), Int.sub_mul, Int.mul_assoc, Int.mul_assoc, ← p10_add (by omega) (by omega), ← p10_add (by omega) (by omega),
          show x - y - 1 + (1 + (y + 40)) = x + 40 from by omega, show z - y - 1 + (1 + (y + 40)) = z + 40 from by omega]
        unfold big at h
        omega
      exact absurd (e ▸ p10_tmod 1 (by omega) _) (ok_ne hn hn0)
  · rfl
theorem manAt_bound {m x p : Int} (hm : ok m x = true) : -9999999900000000 ≤ (manAt m x p).1 ∧ (manAt m x p).1 ≤ 9999999900000000 := by
  have b := ok_bd hm
  unfold manAt
  by_cases h0 : m = 0
  · rw [if_pos h0]; exact ⟨by decide, by decide⟩
  · rw [if_neg h0]
    by_cases h8 : 8 < x - p
    · rw [if_pos h8]; exact ⟨by decide, by decide⟩
    · rw [if_neg h8]
      have q := p10_mono (j := x - p) (k := 8) (by omega)
      rw [show p10 8 = 100000000 from rfl] at q
      have q0 := p10_pos (x - p)
      have := mul_bd (m := m) (n := p10 (x - p)) 99999999 100000000 (by omega) (by omega) (by omega) (by omega) q
      omega
/-- a difference that has room is found -/
theorem sub_find {m x n y c z : Int} (hm : ok m x = true) (hn : ok n y = true) (hc : ok c z = true) (h : big c z = big m x - big n y) : sub m x n y = (c, z, true) := by
  have bm := ok_bd hm
  have bn := ok_bd hn
  have f1 := manAt_find hm hn hc h
  have f2 : (manAt n y (min x y)).2 = true := by
    have := manAt_find (c := -c) (z := z) hn hm (by rw [ok_neg]; exact hc) (by rw [big_neg]; omega)
    rw [Int.min_comm] at this; exact this
  have f2' : (manAt (-n) y (min x y)).2 = true := by rw [manAt_neg]; exact f2
  have v1 := manAt_bigv (by omega) (by omega) f1
  have v2 := manAt_bigv (m := -n) (by omega) (by omega) f2'
  have hv : big ((manAt m x (min x y)).1 + (manAt (-n) y (min x y)).1) (min x y) = big c z := by
    rw [h, big, Int.add_mul, v1, v2, big_neg]; omega
  have hnorm := norm_find hc (by omega) (by omega) hv
  have k1 := manAt_bound (p := min x y) hm
  have k2 := manAt_bound (m := -n) (x := y) (p := min x y) (by rw [ok_neg]; exact hn)
  rw [sub, if_pos ⟨hm, hn⟩, add1, if_pos ⟨f1, f2'⟩, new, if_pos ⟨⟨by omega, by omega⟩, by omega, by omega⟩]
  exact hnorm
theorem back {m x n y : Int} (h : (add m x n y).2.2 = true) : sub (add m x n y).1 (add m x n y).2.1 n y = (m, x, true) := by
  obtain ⟨a1, a2, a3, a4⟩ := add_val h
  exact sub_find a3 a2 a1 (by omega)
end Go.Proofs.Ythpnbjigpdgmpaa.Dm
