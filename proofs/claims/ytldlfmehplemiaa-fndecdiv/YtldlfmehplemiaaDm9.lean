/- Plain mathematics: what a quotient and what is left are worth. No program in it. -/
import Derived.Test.YtldlfmehplemiaaDm8
import Derived.Test.YtldlfmehplemiaaDm3
namespace Go.Proofs.Ytldlfmehplemiaa.Dm
theorem int_cases (a : Int) : ∃ k : Nat, a = k ∨ a = -(k : Int) := ⟨a.natAbs, by omega⟩
theorem ten_nat (V m : Nat) (hm : 0 < m) : (V * 10) / m = V / m * 10 + (V % m * 10) / m ∧ (V * 10) % m = (V % m * 10) % m := by
  have h := Nat.div_add_mod V m
  have hlt := Nat.mod_lt V hm
  generalize V / m = q at *
  generalize V % m = r at *
  subst h
  have e : (m * q + r) * 10 = m * (q * 10) + r * 10 := by rw [Nat.add_mul, Nat.mul_assoc]
  rw [e, Nat.mul_add_div hm, Nat.mul_add_mod]
  exact ⟨rfl, rfl⟩
theorem ten_step (V m : Int) (hm : m ≠ 0) : (V * 10).tdiv m = V.tdiv m * 10 + (V.tmod m * 10).tdiv m ∧ (V * 10).tmod m = (V.tmod m * 10).tmod m := by
  obtain ⟨v, hv⟩ := int_cases V
  obtain ⟨k, hk⟩ := int_cases m
  have h0 : 0 < k := by omega
  obtain ⟨t1, t2⟩ := ten_nat v k h0
  have T1 : ((v : Int) * 10).tdiv k = (v : Int).tdiv k * 10 + ((v : Int).tmod k * 10).tdiv k := by
    have c := congrArg Int.ofNat t1
    simp only [Int.ofNat_eq_natCast, Int.natCast_add, Int.natCast_mul, Int.ofNat_tdiv, Int.ofNat_tmod] at c; exact c
  have T2 : ((v : Int) * 10).tmod k = ((v : Int).tmod k * 10).tmod k := by
    have c := congrArg Int.ofNat t2
    simp only [Int.ofNat_eq_natCast, Int.natCast_mul, Int.ofNat_tmod] at c; exact c
  rcases hv with rfl | rfl <;> rcases hk with rfl | rfl <;> (try simp only [Int.neg_mul, Int.neg_tdiv, Int.tdiv_neg, Int.neg_tmod, Int.tmod_neg]) <;> rw [T1, T2] <;> refine ⟨?_, rfl⟩ <;> omega
theorem tdiv_tdiv_pos (a m c : Int) (hc : 0 < c) : (a.tdiv m).tdiv c = a.tdiv (m * c) := by
  obtain ⟨v, hv⟩ := int_cases a
  obtain ⟨k, hk⟩ := int_cases m
  obtain ⟨d, rfl⟩ : ∃ d : Nat, c = d := ⟨c.toNat, by omega⟩
  have T : ((v : Int).tdiv k).tdiv d = (v : Int).tdiv (k * d) := by
    have c := congrArg Int.ofNat (Nat.div_div_eq_div_mul v k d)
    simp only [Int.ofNat_eq_natCast, Int.natCast_mul, Int.ofNat_tdiv] at c; exact c
  rcases hv with rfl | rfl <;> rcases hk with rfl | rfl <;> (try simp only [Int.neg_mul, Int.neg_tdiv, Int.tdiv_neg]) <;> rw [T]
theorem qdown_eq (k : Nat) : ∀ c : Int, qdown k c = c.tdiv (10 ^ k) := by
  induction k with
  | zero => intro c; simp [qdown]
  | succ k ih =>
    intro c
    rw [qdown, ih, tdiv_tdiv_pos _ _ _ (Int.pow_pos (by omega)), Int.pow_succ, Int.mul_comm]
theorem qloop_eq (k : Nat) (m : Int) (hm : m ≠ 0) : ∀ V : Int, (qloop k (V.tdiv m) (V.tmod m) m).2 = true → (qloop k (V.tdiv m) (V.tmod m) m).1 = (V * 10 ^ k).tdiv m := by
  induction k with
  | zero => intro V _; simp [qloop]
  | succ k ih =>
    intro V h
    rw [qloop] at h ⊢
    rw [← (ten_step V m hm).1, ← (ten_step V m hm).2] at h ⊢
    by_cases hb : -100000000000000000 ≤ (V * 10).tdiv m ∧ (V * 10).tdiv m ≤ 100000000000000000
    · rw [if_pos hb] at h ⊢
      rw [ih _ h, Int.mul_assoc, Int.pow_succ, Int.mul_comm 10]
    · rw [if_neg hb] at h; simp at h
/-- what a quotient is worth -/
theorem quot_val {m n e : Int} (hn : n ≠ 0) (h : (quot m n e).2 = true) : (quot m n e).1 = if 0 < e then (m * p10 e).tdiv n else m.tdiv (n * p10 (-e)) := by
  unfold quot quotFrom at h ⊢
  by_cases he : 0 < e
  · rw [if_pos he] at h ⊢
    rw [if_pos he, qloop_eq _ _ hn _ h]; rfl
  · rw [if_neg he] at h ⊢
    rw [if_neg he]
    simp only
    rw [qdown_eq, tdiv_tdiv_pos _ _ _ (Int.pow_pos (by omega))]; rfl
theorem quot_big {m x n y p : Int} (hn : n ≠ 0) (x1 : -8 ≤ x) (x2 : x ≤ 8) (y1 : -8 ≤ y) (y2 : y ≤ 8) (p1 : 0 ≤ p) (h : (quot m n (x - y + p)).2 = true) :
    (quot m n (x - y + p)).1 = (big m x * p10 p).tdiv (big n y) := by
  rw [quot_val hn h]
  unfold big
  by_cases he : 0 < x - y + p
  · rw [if_pos he]
    have e : m * p10 (x + 40) * p10 p = m * p10 (x - y + p) * p10 (y + 40) := by
      rw [Int.mul_assoc, Int.mul_assoc, ← p10_add (by omega) (by omega), ← p10_add (by omega) (by omega)]; congr 2; omega
    rw [e, Int.mul_tdiv_mul_of_pos_left _ _ (by have := p10_pos (y + 40); omega)]
  · rw [if_neg he]
    have e1 : m * p10 (x + 40) * p10 p = m * p10 (x + 40 + p) := by rw [Int.mul_assoc, ← p10_add (by omega) (by omega)]
    have e2 : n * p10 (y + 40) = n * p10 (-(x - y + p)) * p10 (x + 40 + p) := by rw [Int.mul_assoc, ← p10_add (by omega) (by omega)]; congr 2; omega
    rw [e1, e2, Int.mul_tdiv_mul_of_pos_left _ _ (by have := p10_pos (x + 40 + p); omega)]
/-- what DecDiv is worth -/
theorem div_val {m x n y p : Int} (h : (div m x n y p).2.2 = true) : ok m x = true ∧ ok n y = true ∧ n ≠ 0 ∧ 0 ≤ p ∧ p ≤ 8 ∧ ok (div m x n y p).1 (div m x n y p).2.1 = true ∧
    -p ≤ (div m x n y p).2.1 ∧ big (div m x n y p).1 (div m x n y p).2.1 = (big m x * p10 p).tdiv (big n y) * p10 (40 - p) := by
  by_cases hc : ok m x = true ∧ ok n y = true ∧ n ≠ 0 ∧ 0 ≤ p ∧ p ≤ 8
  · obtain ⟨h1, h2, h3, h4, h5⟩ := hc
    have e : div m x n y p = div1 m x n y p := by rw [div, if_pos ⟨h1, h2, h3, h4, h5⟩]
    rw [e] at h ⊢
    have hok := div1_ok h
    refine ⟨h1, h2, h3, h4, h5, hok, ?_⟩
    have b1 := ok_bd h1
    have b2 := ok_bd h2
    unfold div1 at h hok ⊢
    by_cases hq : (quot m n (x - y + p)).2 = true
    · rw [if_pos hq] at h hok ⊢
      have hv := norm_big_eq (by omega) h
      rw [quot_big h3 (by omega) (by omega) (by omega) (by omega) h4 hq] at h hv hok ⊢
      generalize (big m x * p10 p).tdiv (big n y) = q at *
      constructor
      · by_cases h0 : q = 0
        · rw [norm, if_pos h0]; show -p ≤ 0; omega
        · exact (norm_pow_eq (by omega) h0 h).1
      · rw [hv, big]; congr 2; omega
    · rw [if_neg hq] at h; simp at h
  · rw [div, if_neg hc] at h; simp at h
theorem natAbs_tdiv0 {a b : Int} (h : a.natAbs < b.natAbs) : a.tdiv b = 0 := by
  have e := Int.natAbs_tdiv a b
  rw [show a.natAbs.div b.natAbs = a.natAbs / b.natAbs from rfl, Nat.div_eq_of_lt h] at e
  omega
theorem natAbs_tmod0 {a b : Int} (h : a.natAbs < b.natAbs) : a.tmod b = a := by
  have e := Int.tmod_add_mul_tdiv a b
  rw [natAbs_tdiv0 h] at e
  omega
theorem qloop_small (k : Nat) (m : Int) : ∀ r : Int, r.natAbs * 10 ^ k < m.natAbs → qloop k 0 r m = (0, true) := by
  induction k with
  | zero => intro r _; rfl
  | succ k ih =>
    intro r h
    have h1 : (r * 10).natAbs * 10 ^ k < m.natAbs := by
      rw [Int.natAbs_mul, Nat.mul_assoc, show (10 : Int).natAbs = 10 from rfl, Nat.mul_comm 10, ← Nat.pow_succ]; exact h
    have h2 : (r * 10).natAbs < m.natAbs := Nat.lt_of_le_of_lt (Nat.le_mul_of_pos_right _ (Nat.pow_pos (by omega))) h1
    rw [qloop, natAbs_tdiv0 h2, natAbs_tmod0 h2]
    simpa using ih _ h1
theorem p10_nat (k : Int) : (p10 k).natAbs = 10 ^ k.toNat := by unfold p10; rw [Int.natAbs_pow]; rfl
theorem quot_small {m x n y : Int} (hn : n ≠ 0) (x1 : -8 ≤ x) (x2 : x ≤ 8) (y1 : -8 ≤ y) (y2 : y ≤ 8) (h : (big m x).natAbs < (big n y).natAbs) : quot m n (x - y + 0) = (0, true) := by
  have h2 : (quot m n (x - y + 0)).2 = true := by
    unfold quot quotFrom
    by_cases he : 0 < x - y + 0
    · rw [if_pos he]
      have h3 : m.natAbs * 10 ^ (x - y + 0).toNat < n.natAbs := by
        unfold big at h
        rw [Int.natAbs_mul, Int.natAbs_mul, p10_nat, p10_nat, show (x + 40).toNat = (x - y + 0).toNat + (y + 40).toNat from by omega, Nat.pow_add, ← Nat.mul_assoc] at h
        exact Nat.lt_of_mul_lt_mul_right h
      have h4 : m.natAbs < n.natAbs := Nat.lt_of_le_of_lt (Nat.le_mul_of_pos_right _ (Nat.pow_pos (by omega))) h3
      rw [natAbs_tdiv0 h4, natAbs_tmod0 h4, qloop_small _ _ _ h3]
    · rw [if_neg he]
  have h1 := quot_big hn x1 x2 y1 y2 (Int.le_refl 0) h2
  rw [p10_zero, Int.mul_one, natAbs_tdiv0 h] at h1
  exact Prod.ext h1 h2
theorem big_ne {n : Int} (y : Int) (h : n ≠ 0) : big n y ≠ 0 := by unfold big; exact Int.mul_ne_zero h (p10_ne _)
theorem mod_val {m x n y : Int} (h : (mod m x n y).2.2 = true) : ok m x = true ∧ ok n y = true ∧ n ≠ 0 ∧ ok (mod m x n y).1 (mod m x n y).2.1 = true ∧ big (mod m x n y).1 (mod m x n y).2.1 = (big m x).tmod (big n y) := by
  unfold mod at h ⊢
  by_cases hd : (div m x n y 0).2.2 = true
  · rw [if_pos hd] at h ⊢
    by_cases hu : (mul n y (div m x n y 0).1 (div m x n y 0).2.1).2.2 = true
    · rw [if_pos hu] at h ⊢
      obtain ⟨d1, d2, d3, _, _, _, _, d8⟩ := div_val hd
      obtain ⟨_, _, u3, u4⟩ := mul_val hu
      obtain ⟨_, _, s3, s4⟩ := sub_val h
      refine ⟨d1, d2, d3, s3, ?_⟩
      rw [s4]
      rw [d8, p10_zero, Int.mul_one, show (40 : Int) - 0 = 40 from rfl, ← Int.mul_assoc] at u4
      have := p10_cancel u4
      have e := Int.tmod_add_mul_tdiv (big m x) (big n y)
      omega
    · rw [if_neg hu] at h; simp at h
  · rw [if_neg hd] at h; simp at h
theorem mod_lt {m x n y : Int} (h : (mod m x n y).2.2 = true) : (big (mod m x n y).1 (mod m x n y).2.1).natAbs < (big n y).natAbs := by
  obtain ⟨_, _, h3, _, h5⟩ := mod_val h
  rw [h5, Int.natAbs_tmod]
  exact Nat.mod_lt _ (by have := big_ne y h3; omega)
theorem mod_again {m x n y : Int} (h : (mod m x n y).2.2 = true) : mod (mod m x n y).1 (mod m x n y).2.1 n y = ((mod m x n y).1, (mod m x n y).2.1, true) := by
  obtain ⟨_, h2, h3, h4, _⟩ := mod_val h
  have hl := mod_lt h
  generalize mod m x n y = r at *
  obtain ⟨a, b, c⟩ := r
  simp only at *
  have ba := ok_bd h4
  have bn := ok_bd h2
  have hd : div a b n y 0 = (0, 0, true) := by
    rw [mod_div h4 h2 h3, div1, quot_small h3 (by omega) (by omega) (by omega) (by omega) hl]; rfl
  have hs : sub a b 0 0 = (a, b, true) := by rw [← sub_add]; exact add_zero3 h4
  rw [mod, hd, if_pos rfl, mul_zero3 h2, if_pos rfl, hs]
theorem big_abs (m x : Int) : big (m.natAbs : Int) x = ((big m x).natAbs : Int) := by
  unfold big
  rw [Int.natAbs_mul, Int.natCast_mul]
  congr 1
theorem ok_abs {m x : Int} (h : ok m x = true) : ok (m.natAbs : Int) x = true := by
  rcases Int.natAbs_eq m with e | e
  · rw [← e]; exact h
  · rw [show (m.natAbs : Int) = -m from by omega, ok_neg]; exact h
theorem mod_cmp {m x n y : Int} (h : (mod m x n y).2.2 = true) : cmp ((mod m x n y).1.natAbs : Int) (mod m x n y).2.1 (n.natAbs : Int) y = -1 := by
  obtain ⟨_, h2, _, h4, _⟩ := mod_val h
  rw [cmp_big (ok_abs h4) (ok_abs h2), big_abs, big_abs]
  have := mod_lt h
  exact sgn_neg (by omega)
theorem big_lt (m x : Int) : big m x < 0 ↔ m < 0 := by
  have h := big_sgn m x
  have s1 := sgn_iff (big m x)
  have s2 := sgn_iff m
  rw [h] at s1
  omega
theorem big_zero (m x : Int) : big m x = 0 ↔ m = 0 := by
  have h := big_sgn m x
  have s1 := sgn_iff (big m x)
  have s2 := sgn_iff m
  rw [h] at s1
  omega
theorem mod_sign {m x n y : Int} (h : (mod m x n y).2.2 = true) : (mod m x n y).1 = 0 ∨ ((mod m x n y).1 ≠ 0 ∧ ((mod m x n y).1 < 0 ↔ m < 0)) := by
  obtain ⟨_, _, _, _, h5⟩ := mod_val h
  by_cases h0 : (mod m x n y).1 = 0
  · exact .inl h0
  · refine .inr ⟨h0, ?_⟩
    rw [← big_lt _ (mod m x n y).2.1, h5, ← big_lt m x]
    have hz : (big m x).tmod (big n y) ≠ 0 := by rw [← h5]; exact fun e => h0 ((big_zero _ _).1 e)
    have hs := Int.sign_tmod (big m x) (big n y)
    have hn : ¬ (big n y ∣ big m x) := fun k => hz (Int.tmod_eq_zero_of_dvd k)
    rw [if_neg hn] at hs
    rw [← Int.sign_neg_iff, hs, Int.sign_neg_iff]
end Go.Proofs.Ytldlfmehplemiaa.Dm
