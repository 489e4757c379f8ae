/- Plain mathematics: how the order of decimals goes with sums and differences. No program in it. -/
import Derived.Test.YtldlfmehplemiaaDm4
import Derived.Test.YtldlfmehplemiaaDm7
namespace Go.Proofs.Ytldlfmehplemiaa.Dm
theorem sgn_bd (v : Int) : -1 ≤ sgn v ∧ sgn v ≤ 1 := by
  rcases Int.lt_trichotomy v 0 with h | h | h
  · rw [sgn_neg h]; omega
  · subst h; rw [sgn_zero]; omega
  · rw [sgn_pos h]; omega
theorem cmp_bd (m x n y : Int) : -1 ≤ cmp m x n y ∧ cmp m x n y ≤ 1 := by
  unfold cmp
  split
  · exact sgn_bd _
  · omega
theorem big_val {m x : Int} (h : ok m x = true) : big m x = val m x * p10 32 := by
  have b := ok_bd h
  rw [big, val, Int.mul_assoc, ← p10_add (by omega) (by omega)]; congr 2; omega
theorem cmp_big {m x n y : Int} (hm : ok m x = true) (hn : ok n y = true) : cmp m x n y = sgn (big m x - big n y) := by
  rw [cmp, if_pos ⟨hm, hn⟩, big_val hm, big_val hn, ← Int.sub_mul, sgn_mul (p10_pos _)]
theorem big_sgn (m x : Int) : sgn (big m x) = sgn m := by rw [big, sgn_mul (p10_pos _)]
theorem sgn_iff (v : Int) : (sgn v < 0 ↔ v < 0) ∧ (0 < sgn v ↔ 0 < v) ∧ (sgn v = 0 ↔ v = 0) := by
  rcases Int.lt_trichotomy v 0 with h | h | h
  · rw [sgn_neg h]; omega
  · subst h; rw [sgn_zero]; omega
  · rw [sgn_pos h]; omega
theorem cmp_zero {m x n y : Int} (hm : ok m x = true) (hn : ok n y = true) : cmp m x n y = 0 ↔ (m = n ∧ x = y) := by
  rw [cmp_big hm hn, (sgn_iff _).2.2]
  constructor
  · intro h; exact ok_unique hm hn (by omega)
  · rintro ⟨rfl, rfl⟩; omega
theorem big_neg (n y : Int) : big (-n) y = -big n y := by rw [big, big, Int.neg_mul]
theorem sub_val {m x n y : Int} (h : (sub m x n y).2.2 = true) : ok m x = true ∧ ok n y = true ∧ ok (sub m x n y).1 (sub m x n y).2.1 = true ∧ big (sub m x n y).1 (sub m x n y).2.1 = big m x - big n y := by
  have o := sub_ok h
  rw [← sub_add] at h ⊢
  obtain ⟨_, _, a3, a4⟩ := add_val h
  exact ⟨o.1, o.2, a3, by rw [a4, big_neg]; omega⟩
theorem sub_sgn {m x n y : Int} (h : (sub m x n y).2.2 = true) : ((sub m x n y).1 < 0 ↔ cmp m x n y < 0) ∧ (0 < (sub m x n y).1 ↔ 0 < cmp m x n y) := by
  obtain ⟨h1, h2, _, h4⟩ := sub_val h
  have e : sgn (sub m x n y).1 = cmp m x n y := by rw [cmp_big h1 h2, ← h4, big_sgn]
  have := sgn_iff (sub m x n y).1
  rw [← e]
  exact ⟨this.1.symm, this.2.1.symm⟩
theorem cmp_trans {m x n y c z : Int} (hm : ok m x = true) (hn : ok n y = true) (hc : ok c z = true) (h1 : cmp m x n y ≤ 0) (h2 : cmp n y c z ≤ 0) : cmp m x c z ≤ 0 := by
  rw [cmp_big hm hn] at h1
  rw [cmp_big hn hc] at h2
  rw [cmp_big hm hc]
  have s1 := sgn_iff (big m x - big n y)
  have s2 := sgn_iff (big n y - big c z)
  have s3 := sgn_iff (big m x - big c z)
  omega
theorem cmp_add {m x n y c z : Int} (h1 : (add m x c z).2.2 = true) (h2 : (add n y c z).2.2 = true) :
    cmp (add m x c z).1 (add m x c z).2.1 (add n y c z).1 (add n y c z).2.1 = cmp m x n y := by
  obtain ⟨a1, a2, a3, a4⟩ := add_val h1
  obtain ⟨b1, b2, b3, b4⟩ := add_val h2
  rw [cmp_big a3 b3, cmp_big a1 b1, a4, b4]
  congr 1; omega
end Go.Proofs.Ytldlfmehplemiaa.Dm
