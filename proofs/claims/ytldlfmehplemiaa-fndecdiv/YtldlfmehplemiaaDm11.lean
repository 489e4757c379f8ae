/- Plain mathematics: a number divided and taken as often again. -/
import Derived.Test.YtldlfmehplemiaaDm9
namespace Go.Proofs.Ytldlfmehplemiaa.Dm
theorem tdiv_near (a b : Int) (hb : b ≠ 0) : (a - a.tdiv b * b).natAbs < b.natAbs ∧ (a.tdiv b * b).natAbs ≤ a.natAbs := by
  constructor
  · have e : a - a.tdiv b * b = a.tmod b := by have := Int.mul_tdiv_add_tmod a b; rw [Int.mul_comm] at this; omega
    rw [e, Int.natAbs_tmod]
    exact Nat.mod_lt _ (by omega)
  · rw [Int.natAbs_mul, Int.natAbs_tdiv]
    exact Nat.div_mul_le_self _ _
/-- what comes of dividing, and taking as often again -/
theorem div_again {m x n y p : Int} (h : (div m x n y p).2.2 = true) (h1 : (mul (div m x n y p).1 (div m x n y p).2.1 n y).2.2 = true) :
    big (mul (div m x n y p).1 (div m x n y p).2.1 n y).1 (mul (div m x n y p).1 (div m x n y p).2.1 n y).2.1 * p10 p = (big m x * p10 p).tdiv (big n y) * big n y := by
  obtain ⟨_, _, _, p1, p2, _, _, hD⟩ := div_val h
  obtain ⟨_, _, _, hM⟩ := mul_val h1
  rw [hD] at hM
  generalize (big m x * p10 p).tdiv (big n y) = Q at *
  generalize big (mul (div m x n y p).1 (div m x n y p).2.1 n y).1 (mul (div m x n y p).1 (div m x n y p).2.1 n y).2.1 = X at *
  have e : p10 (40 - p) * p10 p = p10 40 := by rw [← p10_add (by omega) (by omega)]; congr 1; omega
  apply p10_cancel (k := 40)
  calc X * p10 p * p10 40 = X * p10 40 * p10 p := by rw [Int.mul_right_comm]
    _ = Q * p10 (40 - p) * big n y * p10 p := by rw [hM]
    _ = Q * big n y * (p10 (40 - p) * p10 p) := by rw [Int.mul_right_comm Q, Int.mul_assoc]
    _ = Q * big n y * p10 40 := by rw [e]
theorem div_unit {n y p : Int} (p1 : 0 ≤ p) (p2 : p ≤ 8) (h : (mul (n.natAbs : Int) y 1 (-p)).2.2 = true) :
    big (mul (n.natAbs : Int) y 1 (-p)).1 (mul (n.natAbs : Int) y 1 (-p)).2.1 * p10 p = ((big n y).natAbs : Int) := by
  obtain ⟨_, _, _, hM⟩ := mul_val h
  rw [big_abs] at hM
  have e1 : big 1 (-p) = p10 (40 - p) := by unfold big; rw [Int.one_mul]; congr 1; omega
  rw [e1] at hM
  generalize big (mul (n.natAbs : Int) y 1 (-p)).1 (mul (n.natAbs : Int) y 1 (-p)).2.1 = U at *
  have e : p10 (40 - p) * p10 p = p10 40 := by rw [← p10_add (by omega) (by omega)]; congr 1; omega
  apply p10_cancel (k := 40)
  calc U * p10 p * p10 40 = U * p10 40 * p10 p := by rw [Int.mul_right_comm]
    _ = ((big n y).natAbs : Int) * p10 (40 - p) * p10 p := by rw [hM]
    _ = ((big n y).natAbs : Int) * p10 40 := by rw [Int.mul_assoc, e]
theorem p10_natAbs (k : Int) : ((p10 k).natAbs : Int) = p10 k := by have := p10_pos k; omega
theorem div_law {m x n y p : Int} (h : (div m x n y p).2.2 = true)
    (h1 : (mul (div m x n y p).1 (div m x n y p).2.1 n y).2.2 = true)
    (h2 : (sub m x (mul (div m x n y p).1 (div m x n y p).2.1 n y).1 (mul (div m x n y p).1 (div m x n y p).2.1 n y).2.1).2.2 = true)
    (h3 : (mul (n.natAbs : Int) y 1 (-p)).2.2 = true) :
    cmp ((sub m x (mul (div m x n y p).1 (div m x n y p).2.1 n y).1 (mul (div m x n y p).1 (div m x n y p).2.1 n y).2.1).1.natAbs : Int) (sub m x (mul (div m x n y p).1 (div m x n y p).2.1 n y).1 (mul (div m x n y p).1 (div m x n y p).2.1 n y).2.1).2.1 (mul (n.natAbs : Int) y 1 (-p)).1 (mul (n.natAbs : Int) y 1 (-p)).2.1 < 0 ∧
    cmp ((mul (div m x n y p).1 (div m x n y p).2.1 n y).1.natAbs : Int) (mul (div m x n y p).1 (div m x n y p).2.1 n y).2.1 (m.natAbs : Int) x ≤ 0 := by
  obtain ⟨a1, a2, a3, p1, p2, _, _, _⟩ := div_val h
  have hX := div_again h h1
  have hU := div_unit p1 p2 h3
  obtain ⟨_, s2, s3, s4⟩ := sub_val h2
  obtain ⟨_, _, u3, _⟩ := mul_val h3
  obtain ⟨n1, n2⟩ := tdiv_near (big m x * p10 p) (big n y) (big_ne y a3)
  have hp := p10_pos p
  rw [cmp_big (ok_abs s3) u3, cmp_big (ok_abs s2) (ok_abs a1), big_abs, big_abs, big_abs, s4]
  rw [← hX] at n1 n2
  generalize big (mul (div m x n y p).1 (div m x n y p).2.1 n y).1 (mul (div m x n y p).1 (div m x n y p).2.1 n y).2.1 = X at *
  generalize big (mul (n.natAbs : Int) y 1 (-p)).1 (mul (n.natAbs : Int) y 1 (-p)).2.1 = U at *
  rw [← Int.sub_mul, Int.natAbs_mul] at n1
  rw [Int.natAbs_mul, Int.natAbs_mul] at n2
  constructor
  · have k : (((big m x - X).natAbs : Nat) : Int) * p10 p < U * p10 p := by
      rw [hU, ← p10_natAbs p, ← Int.natCast_mul]; exact Int.ofNat_lt.2 n1
    have := Int.lt_of_mul_lt_mul_right k (by omega)
    rw [sgn_neg (by omega)]; omega
  · have k : (X.natAbs * (p10 p).natAbs : Nat) ≤ (big m x).natAbs * (p10 p).natAbs := n2
    have := Nat.le_of_mul_le_mul_right k (by omega)
    rcases sgn_cases ((X.natAbs : Int) - (big m x).natAbs) with ⟨_, e⟩ | ⟨_, e⟩ | ⟨e, _⟩
    · rw [e]; omega
    · rw [e]; omega
    · omega
theorem tdiv_sign {a b : Int} (hb : b ≠ 0) (h : a.tdiv b ≠ 0) : (a.tdiv b < 0 ↔ ((a < 0 ∧ ¬ b < 0) ∨ (¬ a < 0 ∧ b < 0))) := by
  have h1 := Int.mul_tdiv_add_tmod a b
  rcases Int.lt_trichotomy a 0 with ha | ha | ha
  · rcases Int.lt_or_gt_of_ne hb with hb' | hb'
    · have : 0 ≤ a.tdiv b := Int.tdiv_nonneg_of_nonpos_of_nonpos (by omega) (by omega)
      omega
    · have : a.tdiv b ≤ 0 := by
        have e : a.tdiv b = -((-a).tdiv b) := by rw [Int.neg_tdiv, Int.neg_neg]
        have : 0 ≤ (-a).tdiv b := Int.tdiv_nonneg (by omega) (by omega)
        omega
      omega
  · subst ha; simp at h
  · rcases Int.lt_or_gt_of_ne hb with hb' | hb'
    · have : a.tdiv b ≤ 0 := by
        have e : a.tdiv b = -(a.tdiv (-b)) := by rw [Int.tdiv_neg, Int.neg_neg]
        have : 0 ≤ a.tdiv (-b) := Int.tdiv_nonneg (by omega) (by omega)
        omega
      omega
    · have : 0 ≤ a.tdiv b := Int.tdiv_nonneg (by omega) (by omega)
      omega
theorem div_sign {m x n y p : Int} (h : (div m x n y p).2.2 = true) (h0 : (div m x n y p).1 ≠ 0) : ((div m x n y p).1 < 0 ↔ ((m < 0 ∧ ¬ n < 0) ∨ (¬ m < 0 ∧ n < 0))) := by
  obtain ⟨_, _, a3, p1, p2, _, _, hD⟩ := div_val h
  have q1 := big_lt (div m x n y p).1 (div m x n y p).2.1
  have q2 := big_zero (div m x n y p).1 (div m x n y p).2.1
  rw [hD] at q1 q2
  have hp := p10_pos (40 - p)
  have hpp := p10_pos p
  have hQ : (big m x * p10 p).tdiv (big n y) ≠ 0 := by intro e; rw [e] at q2; simp at q2; exact h0 q2
  have t := tdiv_sign (big_ne y a3) hQ
  have s1 := big_lt m x
  have s2 := big_lt n y
  generalize (big m x * p10 p).tdiv (big n y) = Q at *
  have e1 : Q * p10 (40 - p) < 0 ↔ Q < 0 := by
    constructor
    · intro k
      by_cases hq : Q < 0
      · exact hq
      · have := Int.mul_nonneg (show 0 ≤ Q by omega) (show 0 ≤ p10 (40 - p) by omega); omega
    · intro k; exact Int.mul_neg_of_neg_of_pos k (by omega)
  have e2 : big m x * p10 p < 0 ↔ big m x < 0 := by
    constructor
    · intro k
      by_cases hq : big m x < 0
      · exact hq
      · have := Int.mul_nonneg (show 0 ≤ big m x by omega) (show 0 ≤ p10 p by omega); omega
    · intro k; exact Int.mul_neg_of_neg_of_pos k (by omega)
  rw [← q1, e1, t, e2, s1, s2]
end Go.Proofs.Ytldlfmehplemiaa.Dm
namespace Go.Proofs.Ytldlfmehplemiaa.Dm
theorem norm_man (m e : Int) : -99999999 ≤ (norm m e).1 ∧ (norm m e).1 ≤ 99999999 := by
  unfold norm
  split
  · simp
  · split
    · rename_i h
      rcases (ok_iff _ _).1 h with ⟨h1, _⟩ | ⟨_, h1, h2, _⟩
      · show _ ≤ (strip 20 m e).1 ∧ (strip 20 m e).1 ≤ _
        omega
      · exact ⟨h1, h2⟩
    · simp
theorem new_man (m e : Int) : -99999999 ≤ (new m e).1 ∧ (new m e).1 ≤ 99999999 := by
  unfold new; split
  · exact norm_man _ _
  · simp
theorem mul_man (m x n y : Int) : -99999999 ≤ (mul m x n y).1 ∧ (mul m x n y).1 ≤ 99999999 := by
  unfold mul; split
  · exact norm_man _ _
  · simp
theorem sub_man (m x n y : Int) : -99999999 ≤ (sub m x n y).1 ∧ (sub m x n y).1 ≤ 99999999 := by
  unfold sub; split
  · unfold add1; split
    · exact new_man _ _
    · simp
  · simp
end Go.Proofs.Ytldlfmehplemiaa.Dm
