/- Plain mathematics of figures and of the order of decimals: no program in it. -/
import Derived.Test.YtldlfmehplemiaaDm
namespace Go.Proofs.Ytldlfmehplemiaa.Dm
/-- the figures of a whole number, so many at most -/
def digs : Nat → Nat → List UInt8
  | 0, _ => []
  | k + 1, n => if n < 10 then [UInt8.ofNat (48 + n)] else digs k (n / 10) ++ [UInt8.ofNat (48 + n % 10)]

theorem digs_len (k : Nat) : ∀ n, (digs k n).length ≤ k := by
  induction k with
  | zero => intro n; exact Nat.le_refl _
  | succ k ih =>
    intro n
    rw [digs]
    by_cases h : n < 10
    · rw [if_pos h]; simp
    · rw [if_neg h]; have := ih (n / 10); simp; omega

theorem digs_log (k : Nat) : ∀ n, 1 ≤ n → n < 10 ^ k → 1 ≤ (digs k n).length ∧ 10 ^ ((digs k n).length - 1) ≤ n ∧ n < 10 ^ (digs k n).length := by
  induction k with
  | zero => intro n h1 h2; simp at h2; omega
  | succ k ih =>
    intro n h1 h2
    rw [digs]
    by_cases h : n < 10
    · rw [if_pos h]; simp; omega
    · rw [if_neg h]
      have e := ih (n / 10) (by omega) (by rw [Nat.pow_succ] at h2; omega)
      obtain ⟨e1, e2, e3⟩ := e
      simp only [List.length_append, List.length_cons, List.length_nil, Nat.zero_add, Nat.add_sub_cancel]
      refine ⟨by omega, ?_, ?_⟩
      · have : 10 ^ (digs k (n / 10)).length = 10 ^ ((digs k (n / 10)).length - 1) * 10 := by rw [← Nat.pow_succ]; congr 1; omega
        omega
      · rw [Nat.pow_succ]; omega
def sgn (v : Int) : Int := if v < 0 then -1 else if 0 < v then 1 else 0
theorem sgn_neg {v : Int} (h : v < 0) : sgn v = -1 := by rw [sgn, if_pos h]
theorem sgn_pos {v : Int} (h : 0 < v) : sgn v = 1 := by rw [sgn, if_neg (by omega), if_pos h]
theorem sgn_zero : sgn 0 = 0 := rfl
theorem sgn_mul {v c : Int} (hc : 1 ≤ c) : sgn (v * c) = sgn v := by
  rcases Int.lt_trichotomy v 0 with h | h | h
  · rw [sgn_neg h, sgn_neg (Int.mul_neg_of_neg_of_pos h (by omega))]
  · subst h; simp [sgn]
  · rw [sgn_pos h, sgn_pos (Int.mul_pos h (by omega))]
theorem p10_add {a b : Int} (ha : 0 ≤ a) (hb : 0 ≤ b) : p10 (a + b) = p10 a * p10 b := by
  unfold p10; rw [show (a + b).toNat = a.toNat + b.toNat from by omega, Int.pow_add]
/-- what a decimal is worth at the last place -/
def val (m x : Int) : Int := m * p10 (x + 8)
/-- DecCmp -/
def cmp (m x n y : Int) : Int := if ok m x = true ∧ ok n y = true then sgn (val m x - val n y) else 0
theorem val_at {m x p : Int} (hp : p ≤ x) (hp8 : -8 ≤ p) : val m x = m * p10 (x - p) * p10 (p + 8) := by
  rw [val, Int.mul_assoc, ← p10_add (by omega) (by omega)]; congr 2; omega
theorem manAt_val {m x p : Int} (hp : p ≤ x) (hp8 : -8 ≤ p) (h : (manAt m x p).2 = true) : (manAt m x p).1 * p10 (p + 8) = val m x := by
  rw [val_at hp hp8]
  unfold manAt at h ⊢
  by_cases h0 : m = 0
  · rw [if_pos h0]; subst h0; simp
  · rw [if_neg h0] at h ⊢
    by_cases h8 : 8 < x - p
    · rw [if_pos h8] at h; simp at h
    · rw [if_neg h8]
theorem cmp_near {m x n y : Int} (hm : ok m x = true) (hn : ok n y = true) (h1 : (manAt m x (min x y)).2 = true) (h2 : (manAt n y (min x y)).2 = true) :
    cmp m x n y = sgn ((manAt m x (min x y)).1 - (manAt n y (min x y)).1) := by
  have bm := ok_bd hm
  have bn := ok_bd hn
  rw [cmp, if_pos ⟨hm, hn⟩, ← manAt_val (p := min x y) (by omega) (by omega) h1, ← manAt_val (p := min x y) (by omega) (by omega) h2, ← Int.sub_mul, sgn_mul (p10_pos _)]
theorem far_sgn {m n c : Int} (hm : m ≠ 0) (h1 : -99999999 ≤ n) (h2 : n ≤ 99999999) (hc : 1000000000 ≤ c) : sgn (m * c - n) = sgn m := by
  rcases Int.lt_or_gt_of_ne hm with h | h
  · have : 1 * c ≤ (-m) * c := Int.mul_le_mul_of_nonneg_right (by omega) (by omega)
    have e : (-m) * c = -(m * c) := Int.neg_mul _ _
    rw [sgn_neg h, sgn_neg (by omega)]
  · have : 1 * c ≤ m * c := Int.mul_le_mul_of_nonneg_right (by omega) (by omega)
    rw [sgn_pos h, sgn_pos (by omega)]
theorem manAt_far {m x p : Int} (h : (manAt m x p).2 = false) : m ≠ 0 ∧ 8 < x - p := by
  unfold manAt at h
  by_cases h0 : m = 0
  · rw [if_pos h0] at h; simp at h
  · refine ⟨h0, ?_⟩
    rw [if_neg h0] at h
    by_cases h8 : 8 < x - p
    · exact h8
    · rw [if_neg h8] at h; simp at h
theorem p10_nine {k : Int} (h : 8 < k) : 1000000000 ≤ p10 k := by
  have := p10_mono (j := 9) (k := k) (by omega)
  rw [show p10 9 = 1000000000 from rfl] at this; exact this
theorem cmp_far1 {m x n y : Int} (hm : ok m x = true) (hn : ok n y = true) (h1 : (manAt m x (min x y)).2 = false) : cmp m x n y = sgn m := by
  have bm := ok_bd hm
  have bn := ok_bd hn
  obtain ⟨h0, h8⟩ := manAt_far h1
  have e : min x y = y := by omega
  rw [e] at h8
  rw [cmp, if_pos ⟨hm, hn⟩, val_at (m := m) (p := y) (by omega) (by omega), val, ← Int.sub_mul, sgn_mul (p10_pos _)]
  exact far_sgn h0 (by omega) (by omega) (p10_nine h8)
theorem sgn_sub (a b : Int) : sgn (a - b) = -sgn (b - a) := by
  rcases Int.lt_trichotomy a b with h | h | h
  · rw [sgn_neg (by omega), sgn_pos (by omega)]
  · subst h; simp [sgn]
  · rw [sgn_pos (by omega), sgn_neg (by omega)]; rfl
theorem cmp_swap (m x n y : Int) : cmp m x n y = -cmp n y m x := by
  unfold cmp
  by_cases h : ok m x = true ∧ ok n y = true
  · rw [if_pos h, if_pos ⟨h.2, h.1⟩, sgn_sub]
  · rw [if_neg h, if_neg (fun k => h ⟨k.2, k.1⟩)]; rfl
theorem sgn_neg_eq (a : Int) : sgn (-a) = -sgn a := by
  have := sgn_sub 0 a
  simpa using this
theorem cmp_far2 {m x n y : Int} (hm : ok m x = true) (hn : ok n y = true) (h2 : (manAt n y (min x y)).2 = false) : cmp m x n y = sgn (0 - n) := by
  rw [cmp_swap, cmp_far1 hn hm (by rw [Int.min_comm]; exact h2), show 0 - n = -n from by omega, sgn_neg_eq]
/-- how many figures -/
def dn (m : Int) : Int := ((digs 19 m.natAbs).length : Int)
theorem dn_bd {m x : Int} (hm : ok m x = true) (h0 : m ≠ 0) : 1 ≤ dn m ∧ dn m ≤ 19 ∧ p10 (dn m - 1) ≤ m.natAbs ∧ (m.natAbs : Int) < p10 (dn m) := by
  have b := ok_bd hm
  have hl := digs_log 19 m.natAbs (by omega) (by omega)
  have hle := digs_len 19 m.natAbs
  unfold dn p10
  rw [show ((digs 19 m.natAbs).length : Int).toNat = (digs 19 m.natAbs).length from by omega, show (((digs 19 m.natAbs).length : Int) - 1).toNat = (digs 19 m.natAbs).length - 1 from by omega]
  refine ⟨by omega, by omega, ?_, ?_⟩
  · exact_mod_cast hl.2.1
  · exact_mod_cast hl.2.2
theorem dn_le8 {m x : Int} (hm : ok m x = true) (h0 : m ≠ 0) : dn m ≤ 8 := by
  obtain ⟨h1, h2, h3, h4⟩ := dn_bd hm h0
  have b := ok_bd hm
  by_cases h : dn m ≤ 8
  · exact h
  · have := p10_mono (j := 8) (k := dn m - 1) (by omega)
    rw [show p10 8 = 100000000 from rfl] at this
    omega
theorem abs_gt {m x n y : Int} (hm : ok m x = true) (hn : ok n y = true) (hm0 : m ≠ 0) (hn0 : n ≠ 0) (h : dn n + y < dn m + x) : (n.natAbs : Int) * p10 (y + 8) < (m.natAbs : Int) * p10 (x + 8) := by
  have bm := ok_bd hm
  have bn := ok_bd hn
  obtain ⟨m1, m2, m3, m4⟩ := dn_bd hm hm0
  obtain ⟨n1, n2, n3, n4⟩ := dn_bd hn hn0
  have a1 : p10 (dn m - 1) * p10 (x + 8) ≤ (m.natAbs : Int) * p10 (x + 8) := Int.mul_le_mul_of_nonneg_right m3 (by have := p10_pos (x + 8); omega)
  have a2 : (n.natAbs : Int) * p10 (y + 8) < p10 (dn n) * p10 (y + 8) := Int.mul_lt_mul_of_pos_right n4 (by have := p10_pos (y + 8); omega)
  rw [← p10_add (by omega) (by omega)] at a1 a2
  have a3 : p10 (dn n + (y + 8)) ≤ p10 (dn m - 1 + (x + 8)) := p10_mono (by omega)
  omega
/-- l1Cmp -/
def cmpS (m x n y : Int) : Int :=
  if sgn m ≠ sgn n then sgn (sgn m - sgn n) else if m = 0 then 0 else
    if dn m + x ≠ dn n + y then sgn (dn m + x - (dn n + y)) * sgn m else sgn (m * p10 (x - y) - n * p10 (y - x))
theorem sgn_cases (v : Int) : (v < 0 ∧ sgn v = -1) ∨ (v = 0 ∧ sgn v = 0) ∨ (0 < v ∧ sgn v = 1) := by
  rcases Int.lt_trichotomy v 0 with h | h | h
  · exact .inl ⟨h, sgn_neg h⟩
  · exact .inr (.inl ⟨h, by subst h; rfl⟩)
  · exact .inr (.inr ⟨h, sgn_pos h⟩)
theorem val_sgn (m x : Int) : sgn (val m x) = sgn m := sgn_mul (p10_pos _)
theorem cmpS_eq {m x n y : Int} (hm : ok m x = true) (hn : ok n y = true) : cmpS m x n y = cmp m x n y := by
  have bm := ok_bd hm
  have bn := ok_bd hn
  have vm := val_sgn m x
  have vn := val_sgn n y
  rw [cmp, if_pos ⟨hm, hn⟩, cmpS]
  by_cases hs : sgn m ≠ sgn n
  · rw [if_pos hs]
    rw [← vm, ← vn] at hs ⊢
    generalize val m x = a at *
    generalize val n y = b at *
    rcases sgn_cases a with ⟨ha, ea⟩ | ⟨ha, ea⟩ | ⟨ha, ea⟩ <;> rcases sgn_cases b with ⟨hb, eb⟩ | ⟨hb, eb⟩ | ⟨hb, eb⟩ <;> rw [ea, eb] at hs ⊢ <;> first | (exfalso; exact hs rfl) | (rw [sgn_pos (v := a - b) (by omega)]; rfl) | (rw [sgn_neg (v := a - b) (by omega)]; rfl)
  · rw [if_neg hs]
    have hs' : sgn m = sgn n := by omega
    by_cases hm0 : m = 0
    · rw [if_pos hm0]
      have hn0 : n = 0 := by
        subst hm0
        rcases sgn_cases n with ⟨hb, eb⟩ | ⟨hb, eb⟩ | ⟨hb, eb⟩
        · rw [eb] at hs'; simp [sgn] at hs'
        · exact hb
        · rw [eb] at hs'; simp [sgn] at hs'
      subst hm0 hn0; simp [val, sgn]
    · rw [if_neg hm0]
      have hn0 : n ≠ 0 := by
        intro h; subst h
        rcases sgn_cases m with ⟨hb, eb⟩ | ⟨hb, eb⟩ | ⟨hb, eb⟩
        · rw [eb] at hs'; simp [sgn] at hs'
        · exact hm0 hb
        · rw [eb] at hs'; simp [sgn] at hs'
      by_cases hd : dn m + x ≠ dn n + y
      · rw [if_pos hd]
        have em : val m x = m * p10 (x + 8) := rfl
        have en : val n y = n * p10 (y + 8) := rfl
        rcases sgn_cases m with ⟨ha, ea⟩ | ⟨ha, ea⟩ | ⟨ha, ea⟩
        · have hnn : n < 0 := by
            rcases sgn_cases n with ⟨hb, eb⟩ | ⟨hb, eb⟩ | ⟨hb, eb⟩
            · exact hb
            · exact absurd hb hn0
            · rw [ea, eb] at hs'; simp at hs'
          have e1 : (m.natAbs : Int) * p10 (x + 8) = -(m * p10 (x + 8)) := by rw [show (m.natAbs : Int) = -m from by omega, Int.neg_mul]
          have e2 : (n.natAbs : Int) * p10 (y + 8) = -(n * p10 (y + 8)) := by rw [show (n.natAbs : Int) = -n from by omega, Int.neg_mul]
          rcases Int.lt_or_gt_of_ne hd with h | h
          · have := abs_gt hn hm hn0 hm0 h
            rw [ea, sgn_neg (by omega), sgn_pos (by omega)]; rfl
          · have := abs_gt hm hn hm0 hn0 h
            rw [ea, sgn_pos (by omega), sgn_neg (by omega)]; rfl
        · exact absurd ha hm0
        · have hnn : 0 < n := by
            rcases sgn_cases n with ⟨hb, eb⟩ | ⟨hb, eb⟩ | ⟨hb, eb⟩
            · rw [ea, eb] at hs'; simp at hs'
            · exact absurd hb hn0
            · exact hb
          have e1 : (m.natAbs : Int) = m := by omega
          have e2 : (n.natAbs : Int) = n := by omega
          rcases Int.lt_or_gt_of_ne hd with h | h
          · have := abs_gt hn hm hn0 hm0 h
            rw [e1, e2] at this
            rw [ea, sgn_neg (by omega), sgn_neg (by omega)]; rfl
          · have := abs_gt hm hn hm0 hn0 h
            rw [e1, e2] at this
            rw [ea, sgn_pos (by omega), sgn_pos (by omega)]; rfl
      · rw [if_neg hd]
        by_cases hxy : y ≤ x
        · rw [val_at (m := m) (p := y) hxy (by omega), val, ← Int.sub_mul, sgn_mul (p10_pos _), p10_nonpos (y - x) (by omega), Int.mul_one]
        · rw [val_at (m := n) (p := x) (by omega) (by omega), val, ← Int.sub_mul, sgn_mul (p10_pos _), p10_nonpos (x - y) (by omega), Int.mul_one]
end Go.Proofs.Ytldlfmehplemiaa.Dm
