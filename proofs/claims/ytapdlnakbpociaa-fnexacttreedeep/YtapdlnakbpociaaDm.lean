/- Plain mathematics of decimals: no program in it. -/
namespace Go.Proofs.Ytapdlnakbpociaa.Dm
theorem tm (m : Int) : 10 * m.tdiv 10 + m.tmod 10 = m := Int.mul_tdiv_add_tmod m 10
theorem tmb (m : Int) : -10 < m.tmod 10 ∧ m.tmod 10 < 10 ∧ (0 ≤ m → 0 ≤ m.tmod 10) ∧ (m ≤ 0 → m.tmod 10 ≤ 0) := by
  refine ⟨?_, ?_, fun h => Int.tmod_nonneg _ h, fun h => ?_⟩
  · by_cases h : 0 ≤ m
    · have := Int.tmod_nonneg 10 h; omega
    · have h1 : (-m).tmod 10 < 10 := Int.tmod_lt_of_pos _ (by omega)
      rw [Int.neg_tmod] at h1; omega
  · exact Int.tmod_lt_of_pos _ (by omega)
  · have h1 : 0 ≤ (-m).tmod 10 := Int.tmod_nonneg _ (by omega)
    rw [Int.neg_tmod] at h1; omega
def strip : Nat → Int → Int → Int × Int
  | 0, m, e => (m, e)
  | k + 1, m, e => if m.tmod 10 = 0 then strip k (m.tdiv 10) (e + 1) else (m, e)

theorem tdiv_lt (m : Int) (h : m ≠ 0) : (m.tdiv 10).natAbs < m.natAbs := by
  have := tm m; have := tmb m; omega
/-- one more of fuel than is needed changes nothing -/
theorem strip_succ (k : Nat) : ∀ (m e : Int), m ≠ 0 → m.natAbs < 10 ^ k → strip (k + 1) m e = strip k m e := by
  induction k with
  | zero => intro m e h0 h; simp at h; omega
  | succ k ih =>
    intro m e h0 h
    rw [strip]
    conv => rhs; rw [strip]
    by_cases hz : m.tmod 10 = 0
    · rw [if_pos hz, if_pos hz]
      have := tm m
      rw [hz] at this
      apply ih
      · omega
      · rw [Nat.pow_succ] at h; omega
    · rw [if_neg hz, if_neg hz]
theorem strip_more (k j : Nat) (m e : Int) (h0 : m ≠ 0) (h : m.natAbs < 10 ^ k) : strip (k + j) m e = strip k m e := by
  induction j with
  | zero => rfl
  | succ j ih =>
    rw [← Nat.add_assoc, strip_succ _ _ _ h0 (Nat.lt_of_lt_of_le h (Nat.pow_le_pow_right (by omega) (by omega))), ih]
theorem strip_ne (k : Nat) : ∀ (m e : Int), m ≠ 0 → (strip k m e).1 ≠ 0 := by
  induction k with
  | zero => intro m e h; exact h
  | succ k ih =>
    intro m e h
    rw [strip]
    by_cases hz : m.tmod 10 = 0
    · rw [if_pos hz]; have := tm m; apply ih; omega
    · rw [if_neg hz]; exact h
theorem strip_at (k : Nat) (m e : Int) (h : m.tmod 10 ≠ 0) : strip k m e = (m, e) := by
  cases k with
  | zero => rfl
  | succ k => rw [strip, if_neg h]

/-- in its form -/
def ok (m e : Int) : Bool := if m = 0 then e == 0 else decide (-99999999 ≤ m) && decide (m ≤ 99999999) && decide (-8 ≤ e) && decide (e ≤ 8) && (m.tmod 10 != 0)
theorem ok_iff (m e : Int) : ok m e = true ↔ (m = 0 ∧ e = 0) ∨ (m ≠ 0 ∧ -99999999 ≤ m ∧ m ≤ 99999999 ∧ -8 ≤ e ∧ e ≤ 8 ∧ m.tmod 10 ≠ 0) := by
  unfold ok
  by_cases h : m = 0 <;> simp [h, and_assoc]
/-- the number in its form, if it has room -/
def norm (m e : Int) : Int × Int × Bool :=
  if m = 0 then (0, 0, true) else if ok (strip 20 m e).1 (strip 20 m e).2 then ((strip 20 m e).1, (strip 20 m e).2, true) else (0, 0, false)
/-- what a stripping loop has come to behind j rounds -/
def Strip (m e : Int) (j : Nat) (m' e' : Int) : Prop :=
  m' ≠ 0 ∧ m'.natAbs * 10 ^ j ≤ 1000000000000000000 ∧ e' = e + j ∧ strip (20 - j) m' e' = strip 20 m e
theorem Strip.start (m e : Int) (h0 : m ≠ 0) (h1 : -1000000000000000000 ≤ m) (h2 : m ≤ 1000000000000000000) : Strip m e 0 m e :=
  ⟨h0, by omega, by omega, rfl⟩
theorem pow10_le {a j : Nat} (ha : 1 ≤ a) (h : a * 10 ^ j ≤ 1000000000000000000) : j ≤ 18 := by
  by_cases hj : j ≤ 18
  · exact hj
  · have h1 : 10 ^ 19 ≤ 10 ^ j := Nat.pow_le_pow_right (by omega) (by omega)
    have h2 : 1 * 10 ^ j ≤ a * 10 ^ j := Nat.mul_le_mul_right _ ha
    omega
theorem Strip.bound {m e m' e' : Int} {j : Nat} (h : Strip m e j m' e') : j ≤ 18 ∧ -1000000000000000000 ≤ m' ∧ m' ≤ 1000000000000000000 := by
  obtain ⟨h0, h1, h2, h3⟩ := h
  have hj := pow10_le (a := m'.natAbs) (by omega) h1
  have : m'.natAbs * 1 ≤ m'.natAbs * 10 ^ j := Nat.mul_le_mul_left _ (Nat.one_le_pow j 10 (by omega))
  omega
theorem Strip.step {m e m' e' : Int} {j : Nat} (h : Strip m e j m' e') (hz : m'.tmod 10 = 0) : Strip m e (j + 1) (m'.tdiv 10) (e' + 1) := by
  have hb := h.bound
  obtain ⟨h0, h1, h2, h3⟩ := h
  have ht := tm m'
  rw [hz] at ht
  refine ⟨by omega, ?_, by omega, ?_⟩
  · have : m'.natAbs = 10 * (m'.tdiv 10).natAbs := by omega
    rw [this] at h1
    rw [Nat.pow_succ, Nat.mul_comm (10 ^ j) 10, ← Nat.mul_assoc, Nat.mul_comm _ 10]
    exact h1
  · rw [← h3, show 20 - j = (20 - (j + 1)) + 1 from by omega, strip, if_pos hz]
theorem Strip.stop {m e m' e' : Int} {j : Nat} (h : Strip m e j m' e') (hz : m'.tmod 10 ≠ 0) : strip 20 m e = (m', e') := by
  obtain ⟨h0, h1, h2, h3⟩ := h
  rw [← h3, strip_at _ _ _ hz]
theorem Strip.norm_ok {m e m' e' : Int} {j : Nat} (h : Strip m e j m' e') (hm : m ≠ 0) (hz : m'.tmod 10 ≠ 0) (ho : ok m' e' = true) : norm m e = (m', e', true) := by
  rw [norm, if_neg hm, h.stop hz]; simp [ho]
theorem Strip.norm_no {m e m' e' : Int} {j : Nat} (h : Strip m e j m' e') (hm : m ≠ 0) (hz : m'.tmod 10 ≠ 0) (ho : ok m' e' = false) : norm m e = (0, 0, false) := by
  rw [norm, if_neg hm, h.stop hz]; simp [ho]
/-- DecNew -/
def new (m e : Int) : Int × Int × Bool :=
  if (-100000000000000000 ≤ m ∧ m ≤ 100000000000000000) ∧ (-32 ≤ e ∧ e ≤ 32) then norm m e else (0, 0, false)
/-- DecMul -/
def mul (m x n y : Int) : Int × Int × Bool := if ok m x = true ∧ ok n y = true then norm (m * n) (x + y) else (0, 0, false)
theorem ok_bd {m e : Int} (h : ok m e = true) : -99999999 ≤ m ∧ m ≤ 99999999 ∧ -8 ≤ e ∧ e ≤ 8 := by
  rw [ok_iff] at h; omega
theorem mul_bd {m n : Int} (a : Int) (b : Int) (ha : 0 ≤ a) (h1 : -a ≤ m) (h2 : m ≤ a) (h3 : -b ≤ n) (h4 : n ≤ b) : -(a * b) ≤ m * n ∧ m * n ≤ a * b := by
  have e1 : m.natAbs * n.natAbs ≤ a.toNat * b.toNat := Nat.mul_le_mul (by omega) (by omega)
  have e2 : (m * n).natAbs = m.natAbs * n.natAbs := Int.natAbs_mul m n
  have e3 : ((a.toNat * b.toNat : Nat) : Int) = a * b := by
    rw [Int.natCast_mul, Int.toNat_of_nonneg ha, Int.toNat_of_nonneg (by omega)]
  omega
/-- a whole number times a power of ten -/
def p10 (k : Int) : Int := (10 : Int) ^ k.toNat
theorem p10_zero : p10 0 = 1 := rfl
theorem p10_nonpos (k : Int) (h : k ≤ 0) : p10 k = 1 := by unfold p10; rw [show k.toNat = 0 from by omega]; rfl
theorem p10_succ (k : Int) (h : 0 ≤ k) : p10 (k + 1) = p10 k * 10 := by
  unfold p10; rw [show (k + 1).toNat = k.toNat + 1 from by omega, Int.pow_succ]
theorem p10_pos (k : Int) : 1 ≤ p10 k := by
  have : (0 : Int) < 10 ^ k.toNat := Int.pow_pos (by omega)
  unfold p10; omega
theorem p10_mono {j k : Int} (h : j ≤ k) : p10 j ≤ p10 k := by
  unfold p10
  have : (10 : Nat) ^ j.toNat ≤ 10 ^ k.toNat := Nat.pow_le_pow_right (by omega) (by omega)
  exact_mod_cast this
theorem p10_lt (j : Int) (h : j ≤ 18) : p10 j ≤ 1000000000000000000 := p10_mono (k := 18) h
/-- manAt -/
def manAt (m x p : Int) : Int × Bool := if m = 0 then (0, true) else if 8 < x - p then (0, false) else (m * p10 (x - p), true)
/-- l1Up behind so many rounds: nothing, if it went too far on the way -/
def up : Nat → Int → Int × Bool
  | 0, n => (n, true)
  | k + 1, n => if 1000000000 < n * 10 ∨ n * 10 < -1000000000 then (0, false) else up k (n * 10)
/-- DecAdd of two in their form -/
def add1 (m x n y : Int) : Int × Int × Bool :=
  if (manAt m x (min x y)).2 = true ∧ (manAt n y (min x y)).2 = true then new ((manAt m x (min x y)).1 + (manAt n y (min x y)).1) (min x y) else (0, 0, false)
def add (m x n y : Int) : Int × Int × Bool := if ok m x = true ∧ ok n y = true then add1 m x n y else (0, 0, false)
/-- l1Add -/
def addS (m x n y : Int) : Int × Int × Bool :=
  if m = 0 then (n, y, true) else if n = 0 then (m, x, true) else
    if (up (x - min x y).toNat m).2 = true ∧ (up (y - min x y).toNat n).2 = true then norm ((up (x - min x y).toNat m).1 + (up (y - min x y).toNat n).1) (min x y) else (0, 0, false)
theorem up_eq (k : Nat) : ∀ n : Int, n ≠ 0 → -1000000000 ≤ n → n ≤ 1000000000 → up k n = if -1000000000 ≤ n * 10 ^ k ∧ n * 10 ^ k ≤ 1000000000 then (n * 10 ^ k, true) else (0, false) := by
  induction k with
  | zero => intro n h0 h1 h2; rw [up, if_pos]; simp; simp; omega
  | succ k ih =>
    intro n h0 h1 h2
    have hp : (1 : Int) ≤ 10 ^ k := by have : (0 : Int) < 10 ^ k := Int.pow_pos (by omega); omega
    rw [up, Int.pow_succ, Int.mul_comm (10 ^ k) 10, ← Int.mul_assoc]
    by_cases hc : 1000000000 < n * 10 ∨ n * 10 < -1000000000
    · rw [if_pos hc, if_neg]
      rcases hc with hc | hc
      · have : n * 10 * 1 ≤ n * 10 * 10 ^ k := Int.mul_le_mul_of_nonneg_left hp (by omega)
        omega
      · have : (-(n * 10)) * 1 ≤ (-(n * 10)) * 10 ^ k := Int.mul_le_mul_of_nonneg_left hp (by omega)
        have e : (-(n * 10)) * (10 : Int) ^ k = -(n * 10 * 10 ^ k) := Int.neg_mul _ _
        omega
    · rw [if_neg hc]
      exact ih (n * 10) (by omega) (by omega) (by omega)
theorem strip_mul (j k : Nat) : ∀ (m e : Int), m.tmod 10 ≠ 0 → strip (k + 1 + j) (m * 10 ^ k) e = (m, e + k) := by
  induction k with
  | zero => intro m e h; rw [strip_at _ _ _ (by simpa using h)]; simp
  | succ k ih =>
    intro m e h
    rw [show k + 1 + 1 + j = (k + 1 + j) + 1 from by omega, strip, Int.pow_succ, ← Int.mul_assoc]
    rw [if_pos (Int.mul_tmod_left _ _), Int.mul_tdiv_cancel _ (by omega), ih m (e + 1) h]
    simp; omega
theorem norm_big {m e : Int} (h0 : m.tmod 10 ≠ 0) (h : 99999999 < m ∨ m < -99999999) : norm m e = (0, 0, false) := by
  have hm : m ≠ 0 := by intro h; subst h; simp at h0
  rw [norm, if_neg hm, strip_at _ _ _ h0]
  have : ok m e = false := by
    rw [Bool.eq_false_iff, Ne, ok_iff]; omega
  simp [this]
theorem new_norm {m e : Int} (h1 : -100000000000000000 ≤ m) (h2 : m ≤ 100000000000000000) (h3 : -32 ≤ e) (h4 : e ≤ 32) : new m e = norm m e := by
  rw [new, if_pos ⟨⟨h1, h2⟩, h3, h4⟩]
theorem norm_self {m e : Int} (h : ok m e = true) : norm m e = (m, e, true) := by
  by_cases h0 : m = 0
  · subst h0; rw [ok_iff] at h; rw [norm, if_pos rfl]; simp at h; simp [h]
  · have h' := h
    rw [ok_iff] at h'
    rw [norm, if_neg h0, strip_at _ _ _ (by omega)]
    simp [h]
theorem norm_pow {m e : Int} (k : Nat) (hk : k ≤ 19) (h0 : m ≠ 0) (h : ok m (e + k) = true) : norm (m * 10 ^ k) e = (m, e + k, true) := by
  have h' := h
  rw [ok_iff] at h'
  have hp : (10 : Int) ^ k ≠ 0 := Int.pow_ne_zero (by omega)
  rw [norm, if_neg (Int.mul_ne_zero h0 hp)]
  have hs : strip 20 (m * 10 ^ k) e = (m, e + k) := by
    have e1 := strip_mul (19 - k) k m e (by omega)
    rw [show k + 1 + (19 - k) = 20 from by omega] at e1
    exact e1
  rw [hs]; simp [h]
theorem tmod_add {u v : Int} (h : u.tmod 10 = 0) (hv : v.tmod 10 ≠ 0) : (u + v).tmod 10 ≠ 0 := by
  have := tm u; have := tm v; have := tm (u + v); have := tmb v
  intro hh; omega
theorem ite_and_comm {p q : Prop} [Decidable p] [Decidable q] (a b : Int × Int × Bool) : (if p ∧ q then a else b) = if q ∧ p then a else b := by
  by_cases hp : p <;> by_cases hq : q <;> simp [hp, hq]
theorem p10_tmod (k : Int) (h : 1 ≤ k) (m : Int) : (m * p10 k).tmod 10 = 0 := by
  have e := p10_succ (k - 1) (by omega)
  rw [show k - 1 + 1 = k from by omega] at e
  rw [e, ← Int.mul_assoc]; exact Int.mul_tmod_left _ _
theorem ok_ne {m x : Int} (h : ok m x = true) (h0 : m ≠ 0) : m.tmod 10 ≠ 0 := by rw [ok_iff] at h; omega
theorem add_zero_left {n y : Int} (hn : ok n y = true) : add1 0 0 n y = (n, y, true) := by
  have bn := ok_bd hn
  unfold add1 manAt
  by_cases hn0 : n = 0
  · have hy : y = 0 := by rw [ok_iff] at hn; omega
    subst hn0 hy; decide
  · by_cases hy : 0 ≤ y
    · rw [show min 0 y = 0 from by omega]
      simp only [if_true, if_neg hn0, Int.sub_zero, if_neg (show ¬ 8 < y from by omega), and_self, Int.zero_add]
      have hp : p10 y = 10 ^ y.toNat := rfl
      have hb := mul_bd (m := n) (n := p10 y) 99999999 100000000 (by omega) (by omega) (by omega) (by have := p10_pos y; omega) (p10_mono (k := 8) (by omega))
      rw [new_norm (by omega) (by omega) (by omega) (by omega), hp, norm_pow y.toNat (by omega) hn0 (by rw [show 0 + (y.toNat : Int) = y from by omega]; exact hn)]
      simp; omega
    · rw [show min 0 y = y from by omega]
      simp only [if_true, if_neg hn0, Int.sub_self, if_neg (show ¬ (8 : Int) < 0 from by omega), and_self, Int.zero_add, p10_zero, Int.mul_one]
      rw [new_norm (by omega) (by omega) (by omega) (by omega), norm_self hn]
theorem add_comm1 (m x n y : Int) : add1 m x n y = add1 n y m x := by
  unfold add1
  rw [Int.min_comm y x, Int.add_comm (manAt n y (min x y)).1, ite_and_comm]
theorem manAt_bd {m x : Int} (p : Int) (h : ok m x = true) : -9999999900000000 ≤ (manAt m x p).1 ∧ (manAt m x p).1 ≤ 9999999900000000 := by
  have b := ok_bd h
  unfold manAt
  by_cases h0 : m = 0
  · rw [if_pos h0]; exact ⟨by decide, by decide⟩
  · rw [if_neg h0]
    by_cases h8 : 8 < x - p
    · rw [if_pos h8]; exact ⟨by decide, by decide⟩
    · rw [if_neg h8]
      have hb := mul_bd (m := m) (n := p10 (x - p)) 99999999 100000000 (by omega) (by omega) (by omega) (by have := p10_pos (x - p); omega) (p10_mono (k := 8) (by omega))
      simp only; omega
/-- both far apart: the spec's way and the impl's -/
theorem add_gt {m x n y : Int} (hm : ok m x = true) (hn : ok n y = true) (hm0 : m ≠ 0) (hn0 : n ≠ 0) (hxy : y < x) : addS m x n y = add1 m x n y := by
  have bm := ok_bd hm
  have bn := ok_bd hn
  have tn := ok_ne hn hn0
  unfold addS add1 manAt
  rw [show min x y = y from by omega]
  simp only [if_neg hm0, if_neg hn0, Int.sub_self, if_neg (show ¬ (8 : Int) < 0 from by omega), p10_zero, Int.mul_one]
  rw [show (0 : Int).toNat = 0 from rfl, up, up_eq _ m hm0 (by omega) (by omega)]
  have hp : (10 : Int) ^ (x - y).toNat = p10 (x - y) := rfl
  rw [hp]
  have ht := p10_tmod (x - y) (by omega) m
  have htt := tmod_add ht tn
  by_cases h8 : 8 < x - y
  · have h9 : p10 9 ≤ p10 (x - y) := p10_mono (by omega)
    rw [show p10 9 = 1000000000 from rfl] at h9
    rw [if_pos h8]
    simp only [Bool.false_eq_true, false_and, if_false]
    by_cases hc : -1000000000 ≤ m * p10 (x - y) ∧ m * p10 (x - y) ≤ 1000000000
    · rw [if_pos hc]
      simp only [and_self, if_true]
      apply norm_big htt
      rcases Int.lt_or_gt_of_ne hm0 with h | h
      · have : 1 * p10 (x - y) ≤ (-m) * p10 (x - y) := Int.mul_le_mul_of_nonneg_right (by omega) (by omega)
        have e : (-m) * p10 (x - y) = -(m * p10 (x - y)) := Int.neg_mul _ _
        omega
      · have : 1 * p10 (x - y) ≤ m * p10 (x - y) := Int.mul_le_mul_of_nonneg_right (by omega) (by omega)
        omega
    · rw [if_neg hc]; simp
  · rw [if_neg h8]
    have hb := mul_bd (m := m) (n := p10 (x - y)) 99999999 100000000 (by omega) (by omega) (by omega) (by have := p10_pos (x - y); omega) (p10_mono (k := 8) (by omega))
    simp only [and_self, if_true]
    rw [new_norm (by omega) (by omega) (by omega) (by omega)]
    by_cases hc : -1000000000 ≤ m * p10 (x - y) ∧ m * p10 (x - y) ≤ 1000000000
    · rw [if_pos hc]; simp
    · rw [if_neg hc]
      simp only [Bool.false_eq_true, false_and, if_false]
      exact (norm_big htt (by omega)).symm
theorem addS_comm {m x n y : Int} (hm : m ≠ 0) (hn : n ≠ 0) : addS m x n y = addS n y m x := by
  unfold addS
  rw [if_neg hm, if_neg hn, if_neg hn, if_neg hm, Int.min_comm y x, Int.add_comm (up (y - min x y).toNat n).1, ite_and_comm]
theorem addS_eq {m x n y : Int} (hm : ok m x = true) (hn : ok n y = true) : addS m x n y = add1 m x n y := by
  by_cases hm0 : m = 0
  · have hx : x = 0 := by rw [ok_iff] at hm; omega
    subst hm0 hx
    rw [add_zero_left hn]; simp [addS]
  · by_cases hn0 : n = 0
    · have hy : y = 0 := by rw [ok_iff] at hn; omega
      subst hn0 hy
      rw [add_comm1, add_zero_left hm]; simp [addS, hm0]
    · rcases Int.lt_trichotomy x y with h | h | h
      · rw [addS_comm hm0 hn0, add_comm1]; exact add_gt hn hm hn0 hm0 h
      · subst h
        have bm := ok_bd hm
        have bn := ok_bd hn
        unfold addS add1 manAt
        rw [show min x x = x from by omega]
        simp only [if_neg hm0, if_neg hn0, Int.sub_self, if_neg (show ¬ (8 : Int) < 0 from by omega), p10_zero, Int.mul_one]
        rw [show (0 : Int).toNat = 0 from rfl, up, up]
        simp only [and_self, if_true]
        rw [new_norm (by omega) (by omega) (by omega) (by omega)]
      · exact add_gt hm hn hm0 hn0 h
theorem ok_neg (n y : Int) : ok (-n) y = ok n y := by
  rw [Bool.eq_iff_iff, ok_iff, ok_iff, Int.neg_tmod]; omega
/-- DecSub -/
def sub (m x n y : Int) : Int × Int × Bool := if ok m x = true ∧ ok n y = true then add1 m x (-n) y else (0, 0, false)
theorem sub_add (m x n y : Int) : add m x (-n) y = sub m x n y := by
  rw [add, sub]; simp only [ok_neg]
theorem sub_min (m x y : Int) : sub m x (-9223372036854775808) y = (0, 0, false) := by
  rw [sub, if_neg]; rw [ok_iff (-9223372036854775808) y]; omega
theorem add_min (m x y : Int) : add m x (-9223372036854775808) y = (0, 0, false) := by
  rw [add, if_neg]; rw [ok_iff (-9223372036854775808) y]; omega
end Go.Proofs.Ytapdlnakbpociaa.Dm
