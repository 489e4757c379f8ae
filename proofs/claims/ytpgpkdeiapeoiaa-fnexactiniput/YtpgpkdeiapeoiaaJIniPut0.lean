/- My own texts, joined: Dm Dm4 Tm DecA DecB DecC DecD DecE DecF Held DecG DecL TxtA. -/
import Derived.Test.YtpgpkdeiapeoiaaRows
import Derived.WalkKit
import Derived.WalkSpells
import Derived.WalkLawsBesides
import Derived.Deep.LoopGhost
import Derived.Deep.QuietTactic
import Derived.BigQuiet
import Derived.Deep.RegionHeld3
import Derived.Deep.DeepCutAuto
import Derived.OpenShut
import Derived.Laws.IdiomStrings
/- Plain mathematics of decimals: no program in it. -/
namespace Go.Proofs.Ytpgpkdeiapeoiaa.Dm
theorem tm (m : Int) : 10 * m.tdiv 10 + m.tmod 10 = m := Int.mul_tdiv_add_tmod m 10
theorem tmb (m : Int) : -10 < m.tmod 10 ∧ m.tmod 10 < 10 ∧ (0 ≤ m → 0 ≤ m.tmod 10) ∧ (m ≤ 0 → m.tmod 10 ≤ 0) := by
  refine ⟨?_, ?_, fun h => Int.tmod_nonneg _ h, fun h => ?_⟩
  · by_cases h : 0 ≤ m
    · have := Int.tmod_nonneg 10 h; omega
    · have h1 : (-m).tmod 10 < 10 := Int.tmod_lt_of_pos _ (by omega)
      rw [Int.neg_tmod] at h1; omega
  · exact Int.tmod_lt_of_pos _ (by omega)
  · have h1 : 0 ≤ (-m).tmod 10 := Int.tmod_nonneg _ (by omega)
    rw [Int.neg_tmod] at h1; omega
def strip : Nat → Int → Int → Int × Int
  | 0, m, e => (m, e)
  | k + 1, m, e => if m.tmod 10 = 0 then strip k (m.tdiv 10) (e + 1) else (m, e)

theorem tdiv_lt (m : Int) (h : m ≠ 0) : (m.tdiv 10).natAbs < m.natAbs := by
  have := tm m; have := tmb m; omega
/-- one more of fuel than is needed changes nothing -/
theorem strip_succ (k : Nat) : ∀ (m e : Int), m ≠ 0 → m.natAbs < 10 ^ k → strip (k + 1) m e = strip k m e := by
  induction k with
  | zero => intro m e h0 h; simp at h; omega
  | succ k ih =>
    intro m e h0 h
    rw [strip]
    conv => rhs; rw [strip]
    by_cases hz : m.tmod 10 = 0
    · rw [if_pos hz, if_pos hz]
      have := tm m
      rw [hz] at this
      apply ih
      · omega
      · rw [Nat.pow_succ] at h; omega
    · rw [if_neg hz, if_neg hz]
theorem strip_more (k j : Nat) (m e : Int) (h0 : m ≠ 0) (h : m.natAbs < 10 ^ k) : strip (k + j) m e = strip k m e := by
  induction j with
  | zero => rfl
  | succ j ih =>
    rw [← Nat.add_assoc, strip_succ _ _ _ h0 (Nat.lt_of_lt_of_le h (Nat.pow_le_pow_right (by omega) (by omega))), ih]
theorem strip_ne (k : Nat) : ∀ (m e : Int), m ≠ 0 → (strip k m e).1 ≠ 0 := by
  induction k with
  | zero => intro m e h; exact h
  | succ k ih =>
    intro m e h
    rw [strip]
    by_cases hz : m.tmod 10 = 0
    · rw [if_pos hz]; have := tm m; apply ih; omega
    · rw [if_neg hz]; exact h
theorem strip_at (k : Nat) (m e : Int) (h : m.tmod 10 ≠ 0) : strip k m e = (m, e) := by
  cases k with
  | zero => rfl
  | succ k => rw [strip, if_neg h]

/-- in its form -/
def ok (m e : Int) : Bool := if m = 0 then e == 0 else decide (-99999999 ≤ m) && decide (m ≤ 99999999) && decide (-8 ≤ e) && decide (e ≤ 8) && (m.tmod 10 != 0)
theorem ok_iff (m e : Int) : ok m e = true ↔ (m = 0 ∧ e = 0) ∨ (m ≠ 0 ∧ -99999999 ≤ m ∧ m ≤ 99999999 ∧ -8 ≤ e ∧ e ≤ 8 ∧ m.tmod 10 ≠ 0) := by
  unfold ok
  by_cases h : m = 0 <;> simp [h, and_assoc]
/-- the number in its form, if it has room -/
def norm (m e : Int) : Int × Int × Bool :=
  if m = 0 then (0, 0, true) else if ok (strip 20 m e).1 (strip 20 m e).2 then ((strip 20 m e).1, (strip 20 m e).2, true) else (0, 0, false)
/-- what a stripping loop has come to behind j rounds -/
def Strip (m e : Int) (j : Nat) (m' e' : Int) : Prop :=
  m' ≠ 0 ∧ m'.natAbs * 10 ^ j ≤ 1000000000000000000 ∧ e' = e + j ∧ strip (20 - j) m' e' = strip 20 m e
theorem Strip.start (m e : Int) (h0 : m ≠ 0) (h1 : -1000000000000000000 ≤ m) (h2 : m ≤ 1000000000000000000) : Strip m e 0 m e :=
  ⟨h0, by omega, by omega, rfl⟩
theorem pow10_le {a j : Nat} (ha : 1 ≤ a) (h : a * 10 ^ j ≤ 1000000000000000000) : j ≤ 18 := by
  by_cases hj : j ≤ 18
  · exact hj
  · have h1 : 10 ^ 19 ≤ 10 ^ j := Nat.pow_le_pow_right (by omega) (by omega)
    have h2 : 1 * 10 ^ j ≤ a * 10 ^ j := Nat.mul_le_mul_right _ ha
    omega
theorem Strip.bound {m e m' e' : Int} {j : Nat} (h : Strip m e j m' e') : j ≤ 18 ∧ -1000000000000000000 ≤ m' ∧ m' ≤ 1000000000000000000 := by
  obtain ⟨h0, h1, h2, h3⟩ := h
  have hj := pow10_le (a := m'.natAbs) (by omega) h1
  have : m'.natAbs * 1 ≤ m'.natAbs * 10 ^ j := Nat.mul_le_mul_left _ (Nat.one_le_pow j 10 (by omega))
  omega
theorem Strip.step {m e m' e' : Int} {j : Nat} (h : Strip m e j m' e') (hz : m'.tmod 10 = 0) : Strip m e (j + 1) (m'.tdiv 10) (e' + 1) := by
  have hb := h.bound
  obtain ⟨h0, h1, h2, h3⟩ := h
  have ht := tm m'
  rw [hz] at ht
  refine ⟨by omega, ?_, by omega, ?_⟩
  · have : m'.natAbs = 10 * (m'.tdiv 10).natAbs := by omega
    rw [this] at h1
    rw [Nat.pow_succ, Nat.mul_comm (10 ^ j) 10, ← Nat.mul_assoc, Nat.mul_comm _ 10]
    exact h1
  · rw [← h3, show 20 - j = (20 - (j + 1)) + 1 from by omega, strip, if_pos hz]
theorem Strip.stop {m e m' e' : Int} {j : Nat} (h : Strip m e j m' e') (hz : m'.tmod 10 ≠ 0) : strip 20 m e = (m', e') := by
  obtain ⟨h0, h1, h2, h3⟩ := h
  rw [← h3, strip_at _ _ _ hz]
theorem Strip.norm_ok {m e m' e' : Int} {j : Nat} (h : Strip m e j m' e') (hm : m ≠ 0) (hz : m'.tmod 10 ≠ 0) (ho : ok m' e' = true) : norm m e = (m', e', true) := by
  rw [norm, if_neg hm, h.stop hz]; simp [ho]
theorem Strip.norm_no {m e m' e' : Int} {j : Nat} (h : Strip m e j m' e') (hm : m ≠ 0) (hz : m'.tmod 10 ≠ 0) (ho : ok m' e' = false) : norm m e = (0, 0, false) := by
  rw [norm, if_neg hm, h.stop hz]; simp [ho]
/-- DecNew -/
def new (m e : Int) : Int × Int × Bool :=
  if (-100000000000000000 ≤ m ∧ m ≤ 100000000000000000) ∧ (-32 ≤ e ∧ e ≤ 32) then norm m e else (0, 0, false)
/-- DecMul -/
def mul (m x n y : Int) : Int × Int × Bool := if ok m x = true ∧ ok n y = true then norm (m * n) (x + y) else (0, 0, false)
theorem ok_bd {m e : Int} (h : ok m e = true) : -99999999 ≤ m ∧ m ≤ 99999999 ∧ -8 ≤ e ∧ e ≤ 8 := by
  rw [ok_iff] at h; omega
theorem mul_bd {m n : Int} (a : Int) (b : Int) (ha : 0 ≤ a) (h1 : -a ≤ m) (h2 : m ≤ a) (h3 : -b ≤ n) (h4 : n ≤ b) : -(a * b) ≤ m * n ∧ m * n ≤ a * b := by
  have e1 : m.natAbs * n.natAbs ≤ a.toNat * b.toNat := Nat.mul_le_mul (by omega) (by omega)
  have e2 : (m * n).natAbs = m.natAbs * n.natAbs := Int.natAbs_mul m n
  have e3 : ((a.toNat * b.toNat : Nat) : Int) = a * b := by
    rw [Int.natCast_mul, Int.toNat_of_nonneg ha, Int.toNat_of_nonneg (by omega)]
  omega
/-- a whole number times a power of ten -/
def p10 (k : Int) : Int := (10 : Int) ^ k.toNat
theorem p10_zero : p10 0 = 1 := rfl
theorem p10_nonpos (k : Int) (h : k ≤ 0) : p10 k = 1 := by unfold p10; rw [show k.toNat = 0 from by omega]; rfl
theorem p10_succ (k : Int) (h : 0 ≤ k) : p10 (k + 1) = p10 k * 10 := by
  unfold p10; rw [show (k + 1).toNat = k.toNat + 1 from by omega, Int.pow_succ]
theorem p10_pos (k : Int) : 1 ≤ p10 k := by
  have : (0 : Int) < 10 ^ k.toNat := Int.pow_pos (by omega)
  unfold p10; omega
theorem p10_mono {j k : Int} (h : j ≤ k) : p10 j ≤ p10 k := by
  unfold p10
  have : (10 : Nat) ^ j.toNat ≤ 10 ^ k.toNat := Nat.pow_le_pow_right (by omega) (by omega)
  exact_mod_cast this
theorem p10_lt (j : Int) (h : j ≤ 18) : p10 j ≤ 1000000000000000000 := p10_mono (k := 18) h
/-- manAt -/
def manAt (m x p : Int) : Int × Bool := if m = 0 then (0, true) else if 8 < x - p then (0, false) else (m * p10 (x - p), true)
/-- l1Up behind so many rounds: nothing, if it went too far on the way -/
def up : Nat → Int → Int × Bool
  | 0, n => (n, true)
  | k + 1, n => if 1000000000 < n * 10 ∨ n * 10 < -1000000000 then (0, false) else up k (n * 10)
/-- DecAdd of two in their form -/
def add1 (m x n y : Int) : Int × Int × Bool :=
  if (manAt m x (min x y)).2 = true ∧ (manAt n y (min x y)).2 = true then new ((manAt m x (min x y)).1 + (manAt n y (min x y)).1) (min x y) else (0, 0, false)
def add (m x n y : Int) : Int × Int × Bool := if ok m x = true ∧ ok n y = true then add1 m x n y else (0, 0, false)
/-- l1Add -/
def addS (m x n y : Int) : Int × Int × Bool :=
  if m = 0 then (n, y, true) else if n = 0 then (m, x, true) else
    if (up (x - min x y).toNat m).2 = true ∧ (up (y - min x y).toNat n).2 = true then norm ((up (x - min x y).toNat m).1 + (up (y - min x y).toNat n).1) (min x y) else (0, 0, false)
theorem up_eq (k : Nat) : ∀ n : Int, n ≠ 0 → -1000000000 ≤ n → n ≤ 1000000000 → up k n = if -1000000000 ≤ n * 10 ^ k ∧ n * 10 ^ k ≤ 1000000000 then (n * 10 ^ k, true) else (0, false) := by
  induction k with
  | zero => intro n h0 h1 h2; rw [up, if_pos]; simp; simp; omega
  | succ k ih =>
    intro n h0 h1 h2
    have hp : (1 : Int) ≤ 10 ^ k := by have : (0 : Int) < 10 ^ k := Int.pow_pos (by omega); omega
    rw [up, Int.pow_succ, Int.mul_comm (10 ^ k) 10, ← Int.mul_assoc]
    by_cases hc : 1000000000 < n * 10 ∨ n * 10 < -1000000000
    · rw [if_pos hc, if_neg]
      rcases hc with hc | hc
      · have : n * 10 * 1 ≤ n * 10 * 10 ^ k := Int.mul_le_mul_of_nonneg_left hp (by omega)
        omega
      · have : (-(n * 10)) * 1 ≤ (-(n * 10)) * 10 ^ k := Int.mul_le_mul_of_nonneg_left hp (by omega)
        have e : (-(n * 10)) * (10 : Int) ^ k = -(n * 10 * 10 ^ k) := Int.neg_mul _ _
        omega
    · rw [if_neg hc]
      exact ih (n * 10) (by omega) (by omega) (by omega)
theorem strip_mul (j k : Nat) : ∀ (m e : Int), m.tmod 10 ≠ 0 → strip (k + 1 + j) (m * 10 ^ k) e = (m, e + k) := by
  induction k with
  | zero => intro m e h; rw [strip_at _ _ _ (by simpa using h)]; simp
  | succ k ih =>
    intro m e h
    rw [show k + 1 + 1 + j = (k + 1 + j) + 1 from by omega, strip, Int.pow_succ, ← Int.mul_assoc]
    rw [if_pos (Int.mul_tmod_left _ _), Int.mul_tdiv_cancel _ (by omega), ih m (e + 1) h]
    simp; omega
theorem norm_big {m e : Int} (h0 : m.tmod 10 ≠ 0) (h : 99999999 < m ∨ m < -99999999) : norm m e = (0, 0, false) := by
  have hm : m ≠ 0 := by intro h; subst h; simp at h0
  rw [norm, if_neg hm, strip_at _ _ _ h0]
  have : ok m e = false := by
    rw [Bool.eq_false_iff, Ne, ok_iff]; omega
  simp [this]
theorem new_norm {m e : Int} (h1 : -100000000000000000 ≤ m) (h2 : m ≤ 100000000000000000) (h3 : -32 ≤ e) (h4 : e ≤ 32) : new m e = norm m e := by
  rw [new, if_pos ⟨⟨h1, h2⟩, h3, h4⟩]
theorem norm_self {m e : Int} (h : ok m e = true) : norm m e = (m, e, true) := by
  by_cases h0 : m = 0
  · subst h0; rw [ok_iff] at h; rw [norm, if_pos rfl]; simp at h; simp [h]
  · have h' := h
    rw [ok_iff] at h'
    rw [norm, if_neg h0, strip_at _ _ _ (by omega)]
    simp [h]
theorem norm_pow {m e : Int} (k : Nat) (hk : k ≤ 19) (h0 : m ≠ 0) (h : ok m (e + k) = true) : norm (m * 10 ^ k) e = (m, e + k, true) := by
  have h' := h
  rw [ok_iff] at h'
  have hp : (10 : Int) ^ k ≠ 0 := Int.pow_ne_zero (by omega)
  rw [norm, if_neg (Int.mul_ne_zero h0 hp)]
  have hs : strip 20 (m * 10 ^ k) e = (m, e + k) := by
    have e1 := strip_mul (19 - k) k m e (by omega)
    rw [show k + 1 + (19 - k) = 20 from by omega] at e1
    exact e1
  rw [hs]; simp [h]
theorem tmod_add {u v : Int} (h : u.tmod 10 = 0) (hv : v.tmod 10 ≠ 0) : (u + v).tmod 10 ≠ 0 := by
  have := tm u; have := tm v; have := tm (u + v); have := tmb v
  intro hh; omega
theorem ite_and_comm {p q : Prop} [Decidable p] [Decidable q] (a b : Int × Int × Bool) : (if p ∧ q then a else b) = if q ∧ p then a else b := by
  by_cases hp : p <;> by_cases hq : q <;> simp [hp, hq]
theorem p10_tmod (k : Int) (h : 1 ≤ k) (m : Int) : (m * p10 k).tmod 10 = 0 := by
  have e := p10_succ (k - 1) (by omega)
  rw [show k - 1 + 1 = k from by omega] at e
  rw [e, ← Int.mul_assoc]; exact Int.mul_tmod_left _ _
theorem ok_ne {m x : Int} (h : ok m x = true) (h0 : m ≠ 0) : m.tmod 10 ≠ 0 := by rw [ok_iff] at h; omega
theorem add_zero_left {n y : Int} (hn : ok n y = true) : add1 0 0 n y = (n, y, true) := by
  have bn := ok_bd hn
  unfold add1 manAt
  by_cases hn0 : n = 0
  · have hy : y = 0 := by rw [ok_iff] at hn; omega
    subst hn0 hy; decide
  · by_cases hy : 0 ≤ y
    · rw [show min 0 y = 0 from by omega]
      simp only [if_true, if_neg hn0, Int.sub_zero, if_neg (show ¬ 8 < y from by omega), and_self, Int.zero_add]
      have hp : p10 y = 10 ^ y.toNat := rfl
      have hb := mul_bd (m := n) (n := p10 y) 99999999 100000000 (by omega) (by omega) (by omega) (by have := p10_pos y; omega) (p10_mono (k := 8) (by omega))
      rw [new_norm (by omega) (by omega) (by omega) (by omega), hp, norm_pow y.toNat (by omega) hn0 (by rw [show 0 + (y.toNat : Int) = y from by omega]; exact hn)]
      simp; omega
    · rw [show min 0 y = y from by omega]
      simp only [if_true, if_neg hn0, Int.sub_self, if_neg (show ¬ (8 : Int) < 0 from by omega), and_self, Int.zero_add, p10_zero, Int.mul_one]
      rw [new_norm (by omega) (by omega) (by omega) (by omega), norm_self hn]
theorem add_comm1 (m x n y : Int) : add1 m x n y = add1 n y m x := by
  unfold add1
  rw [Int.min_comm y x, Int.add_comm (manAt n y (min x y)).1, ite_and_comm]
theorem manAt_bd {m x : Int} (p : Int) (h : ok m x = true) : -9999999900000000 ≤ (manAt m x p).1 ∧ (manAt m x p).1 ≤ 9999999900000000 := by
  have b := ok_bd h
  unfold manAt
  by_cases h0 : m = 0
  · rw [if_pos h0]; exact ⟨by decide, by decide⟩
  · rw [if_neg h0]
    by_cases h8 : 8 < x - p
    · rw [if_pos h8]; exact ⟨by decide, by decide⟩
    · rw [if_neg h8]
      have hb := mul_bd (m := m) (n := p10 (x - p)) 99999999 100000000 (by omega) (by omega) (by omega) (by have := p10_pos (x - p); omega) (p10_mono (k := 8) (by omega))
      simp only; omega
/-- both far apart: the spec's way and the impl's -/
theorem add_gt {m x n y : Int} (hm : ok m x = true) (hn : ok n y = true) (hm0 : m ≠ 0) (hn0 : n ≠ 0) (hxy : y < x) : addS m x n y = add1 m x n y := by
  have bm := ok_bd hm
  have bn := ok_bd hn
  have tn := ok_ne hn hn0
  unfold addS add1 manAt
  rw [show min x y = y from by omega]
  simp only [if_neg hm0, if_neg hn0, Int.sub_self, if_neg (show ¬ (8 : Int) < 0 from by omega), p10_zero, Int.mul_one]
  rw [show (0 : Int).toNat = 0 from rfl, up, up_eq _ m hm0 (by omega) (by omega)]
  have hp : (10 : Int) ^ (x - y).toNat = p10 (x - y) := rfl
  rw [hp]
  have ht := p10_tmod (x - y) (by omega) m
  have htt := tmod_add ht tn
  by_cases h8 : 8 < x - y
  · have h9 : p10 9 ≤ p10 (x - y) := p10_mono (by omega)
    rw [show p10 9 = 1000000000 from rfl] at h9
    rw [if_pos h8]
    simp only [Bool.false_eq_true, false_and, if_false]
    by_cases hc : -1000000000 ≤ m * p10 (x - y) ∧ m * p10 (x - y) ≤ 1000000000
    · rw [if_pos hc]
      simp only [and_self, if_true]
      apply norm_big htt
      rcases Int.lt_or_gt_of_ne hm0 with h | h
      · have : 1 * p10 (x - y) ≤ (-m) * p10 (x - y) := Int.mul_le_mul_of_nonneg_right (by omega) (by omega)
        have e : (-m) * p10 (x - y) = -(m * p10 (x - y)) := Int.neg_mul _ _
        omega
      · have : 1 * p10 (x - y) ≤ m * p10 (x - y) := Int.mul_le_mul_of_nonneg_right (by omega) (by omega)
        omega
    · rw [if_neg hc]; simp
  · rw [if_neg h8]
    have hb := mul_bd (m := m) (n := p10 (x - y)) 99999999 100000000 (by omega) (by omega) (by omega) (by have := p10_pos (x - y); omega) (p10_mono (k := 8) (by omega))
    simp only [and_self, if_true]
    rw [new_norm (by omega) (by omega) (by omega) (by omega)]
    by_cases hc : -1000000000 ≤ m * p10 (x - y) ∧ m * p10 (x - y) ≤ 1000000000
    · rw [if_pos hc]; simp
    · rw [if_neg hc]
      simp only [Bool.false_eq_true, false_and, if_false]
      exact (norm_big htt (by omega)).symm
theorem addS_comm {m x n y : Int} (hm : m ≠ 0) (hn : n ≠ 0) : addS m x n y = addS n y m x := by
  unfold addS
  rw [if_neg hm, if_neg hn, if_neg hn, if_neg hm, Int.min_comm y x, Int.add_comm (up (y - min x y).toNat n).1, ite_and_comm]
theorem addS_eq {m x n y : Int} (hm : ok m x = true) (hn : ok n y = true) : addS m x n y = add1 m x n y := by
  by_cases hm0 : m = 0
  · have hx : x = 0 := by rw [ok_iff] at hm; omega
    subst hm0 hx
    rw [add_zero_left hn]; simp [addS]
  · by_cases hn0 : n = 0
    · have hy : y = 0 := by rw [ok_iff] at hn; omega
      subst hn0 hy
      rw [add_comm1, add_zero_left hm]; simp [addS, hm0]
    · rcases Int.lt_trichotomy x y with h | h | h
      · rw [addS_comm hm0 hn0, add_comm1]; exact add_gt hn hm hn0 hm0 h
      · subst h
        have bm := ok_bd hm
        have bn := ok_bd hn
        unfold addS add1 manAt
        rw [show min x x = x from by omega]
        simp only [if_neg hm0, if_neg hn0, Int.sub_self, if_neg (show ¬ (8 : Int) < 0 from by omega), p10_zero, Int.mul_one]
        rw [show (0 : Int).toNat = 0 from rfl, up, up]
        simp only [and_self, if_true]
        rw [new_norm (by omega) (by omega) (by omega) (by omega)]
      · exact add_gt hm hn hm0 hn0 h
theorem ok_neg (n y : Int) : ok (-n) y = ok n y := by
  rw [Bool.eq_iff_iff, ok_iff, ok_iff, Int.neg_tmod]; omega
/-- DecSub -/
def sub (m x n y : Int) : Int × Int × Bool := if ok m x = true ∧ ok n y = true then add1 m x (-n) y else (0, 0, false)
theorem sub_add (m x n y : Int) : add m x (-n) y = sub m x n y := by
  rw [add, sub]; simp only [ok_neg]
theorem sub_min (m x y : Int) : sub m x (-9223372036854775808) y = (0, 0, false) := by
  rw [sub, if_neg]; rw [ok_iff (-9223372036854775808) y]; omega
theorem add_min (m x y : Int) : add m x (-9223372036854775808) y = (0, 0, false) := by
  rw [add, if_neg]; rw [ok_iff (-9223372036854775808) y]; omega
end Go.Proofs.Ytpgpkdeiapeoiaa.Dm
/- Plain mathematics of figures and of the order of decimals: no program in it. -/
namespace Go.Proofs.Ytpgpkdeiapeoiaa.Dm
/-- the figures of a whole number, so many at most -/
def digs : Nat → Nat → List UInt8
  | 0, _ => []
  | k + 1, n => if n < 10 then [UInt8.ofNat (48 + n)] else digs k (n / 10) ++ [UInt8.ofNat (48 + n % 10)]

theorem digs_len (k : Nat) : ∀ n, (digs k n).length ≤ k := by
  induction k with
  | zero => intro n; exact Nat.le_refl _
  | succ k ih =>
    intro n
    rw [digs]
    by_cases h : n < 10
    · rw [if_pos h]; simp
    · rw [if_neg h]; have := ih (n / 10); simp; omega

theorem digs_log (k : Nat) : ∀ n, 1 ≤ n → n < 10 ^ k → 1 ≤ (digs k n).length ∧ 10 ^ ((digs k n).length - 1) ≤ n ∧ n < 10 ^ (digs k n).length := by
  induction k with
  | zero => intro n h1 h2; simp at h2; omega
  | succ k ih =>
    intro n h1 h2
    rw [digs]
    by_cases h : n < 10
    · rw [if_pos h]; simp; omega
    · rw [if_neg h]
      have e := ih (n / 10) (by omega) (by rw [Nat.pow_succ] at h2; omega)
      obtain ⟨e1, e2, e3⟩ := e
      simp only [List.length_append, List.length_cons, List.length_nil, Nat.zero_add, Nat.add_sub_cancel]
      refine ⟨by omega, ?_, ?_⟩
      · have : 10 ^ (digs k (n / 10)).length = 10 ^ ((digs k (n / 10)).length - 1) * 10 := by rw [← Nat.pow_succ]; congr 1; omega
        omega
      · rw [Nat.pow_succ]; omega
def sgn (v : Int) : Int := if v < 0 then -1 else if 0 < v then 1 else 0
theorem sgn_neg {v : Int} (h : v < 0) : sgn v = -1 := by rw [sgn, if_pos h]
theorem sgn_pos {v : Int} (h : 0 < v) : sgn v = 1 := by rw [sgn, if_neg (by omega), if_pos h]
theorem sgn_zero : sgn 0 = 0 := rfl
theorem sgn_mul {v c : Int} (hc : 1 ≤ c) : sgn (v * c) = sgn v := by
  rcases Int.lt_trichotomy v 0 with h | h | h
  · rw [sgn_neg h, sgn_neg (Int.mul_neg_of_neg_of_pos h (by omega))]
  · subst h; simp [sgn]
  · rw [sgn_pos h, sgn_pos (Int.mul_pos h (by omega))]
theorem p10_add {a b : Int} (ha : 0 ≤ a) (hb : 0 ≤ b) : p10 (a + b) = p10 a * p10 b := by
  unfold p10; rw [show (a + b).toNat = a.toNat + b.toNat from by omega, Int.pow_add]
/-- what a decimal is worth at the last place -/
def val (m x : Int) : Int := m * p10 (x + 8)
/-- DecCmp -/
def cmp (m x n y : Int) : Int := if ok m x = true ∧ ok n y = true then sgn (val m x - val n y) else 0
theorem val_at {m x p : Int} (hp : p ≤ x) (hp8 : -8 ≤ p) : val m x = m * p10 (x - p) * p10 (p + 8) := by
  rw [val, Int.mul_assoc, ← p10_add (by omega) (by omega)]; congr 2; omega
theorem manAt_val {m x p : Int} (hp : p ≤ x) (hp8 : -8 ≤ p) (h : (manAt m x p).2 = true) : (manAt m x p).1 * p10 (p + 8) = val m x := by
  rw [val_at hp hp8]
  unfold manAt at h ⊢
  by_cases h0 : m = 0
  · rw [if_pos h0]; subst h0; simp
  · rw [if_neg h0] at h ⊢
    by_cases h8 : 8 < x - p
    · rw [if_pos h8] at h; simp at h
    · rw [if_neg h8]
theorem cmp_near {m x n y : Int} (hm : ok m x = true) (hn : ok n y = true) (h1 : (manAt m x (min x y)).2 = true) (h2 : (manAt n y (min x y)).2 = true) :
    cmp m x n y = sgn ((manAt m x (min x y)).1 - (manAt n y (min x y)).1) := by
  have bm := ok_bd hm
  have bn := ok_bd hn
  rw [cmp, if_pos ⟨hm, hn⟩, ← manAt_val (p := min x y) (by omega) (by omega) h1, ← manAt_val (p := min x y) (by omega) (by omega) h2, ← Int.sub_mul, sgn_mul (p10_pos _)]
theorem far_sgn {m n c : Int} (hm : m ≠ 0) (h1 : -99999999 ≤ n) (h2 : n ≤ 99999999) (hc : 1000000000 ≤ c) : sgn (m * c - n) = sgn m := by
  rcases Int.lt_or_gt_of_ne hm with h | h
  · have : 1 * c ≤ (-m) * c := Int.mul_le_mul_of_nonneg_right (by omega) (by omega)
    have e : (-m) * c = -(m * c) := Int.neg_mul _ _
    rw [sgn_neg h, sgn_neg (by omega)]
  · have : 1 * c ≤ m * c := Int.mul_le_mul_of_nonneg_right (by omega) (by omega)
    rw [sgn_pos h, sgn_pos (by omega)]
theorem manAt_far {m x p : Int} (h : (manAt m x p).2 = false) : m ≠ 0 ∧ 8 < x - p := by
  unfold manAt at h
  by_cases h0 : m = 0
  · rw [if_pos h0] at h; simp at h
  · refine ⟨h0, ?_⟩
    rw [if_neg h0] at h
    by_cases h8 : 8 < x - p
    · exact h8
    · rw [if_neg h8] at h; simp at h
theorem p10_nine {k : Int} (h : 8 < k) : 1000000000 ≤ p10 k := by
  have := p10_mono (j := 9) (k := k) (by omega)
  rw [show p10 9 = 1000000000 from rfl] at this; exact this
theorem cmp_far1 {m x n y : Int} (hm : ok m x = true) (hn : ok n y = true) (h1 : (manAt m x (min x y)).2 = false) : cmp m x n y = sgn m := by
  have bm := ok_bd hm
  have bn := ok_bd hn
  obtain ⟨h0, h8⟩ := manAt_far h1
  have e : min x y = y := by omega
  rw [e] at h8
  rw [cmp, if_pos ⟨hm, hn⟩, val_at (m := m) (p := y) (by omega) (by omega), val, ← Int.sub_mul, sgn_mul (p10_pos _)]
  exact far_sgn h0 (by omega) (by omega) (p10_nine h8)
theorem sgn_sub (a b : Int) : sgn (a - b) = -sgn (b - a) := by
  rcases Int.lt_trichotomy a b with h | h | h
  · rw [sgn_neg (by omega), sgn_pos (by omega)]
  · subst h; simp [sgn]
  · rw [sgn_pos (by omega), sgn_neg (by omega)]; rfl
theorem cmp_swap (m x n y : Int) : cmp m x n y = -cmp n y m x := by
  unfold cmp
  by_cases h : ok m x = true ∧ ok n y = true
  · rw [if_pos h, if_pos ⟨h.2, h.1⟩, sgn_sub]
  · rw [if_neg h, if_neg (fun k => h ⟨k.2, k.1⟩)]; rfl
theorem sgn_neg_eq (a : Int) : sgn (-a) = -sgn a := by
  have := sgn_sub 0 a
  simpa using this
theorem cmp_far2 {m x n y : Int} (hm : ok m x = true) (hn : ok n y = true) (h2 : (manAt n y (min x y)).2 = false) : cmp m x n y = sgn (0 - n) := by
  rw [cmp_swap, cmp_far1 hn hm (by rw [Int.min_comm]; exact h2), show 0 - n = -n from by omega, sgn_neg_eq]
/-- how many figures -/
def dn (m : Int) : Int := ((digs 19 m.natAbs).length : Int)
theorem dn_bd {m x : Int} (hm : ok m x = true) (h0 : m ≠ 0) : 1 ≤ dn m ∧ dn m ≤ 19 ∧ p10 (dn m - 1) ≤ m.natAbs ∧ (m.natAbs : Int) < p10 (dn m) := by
  have b := ok_bd hm
  have hl := digs_log 19 m.natAbs (by omega) (by omega)
  have hle := digs_len 19 m.natAbs
  unfold dn p10
  rw [show ((digs 19 m.natAbs).length : Int).toNat = (digs 19 m.natAbs).length from by omega, show (((digs 19 m.natAbs).length : Int) - 1).toNat = (digs 19 m.natAbs).length - 1 from by omega]
  refine ⟨by omega, by omega, ?_, ?_⟩
  · exact_mod_cast hl.2.1
  · exact_mod_cast hl.2.2
theorem dn_le8 {m x : Int} (hm : ok m x = true) (h0 : m ≠ 0) : dn m ≤ 8 := by
  obtain ⟨h1, h2, h3, h4⟩ := dn_bd hm h0
  have b := ok_bd hm
  by_cases h : dn m ≤ 8
  · exact h
  · have := p10_mono (j := 8) (k := dn m - 1) (by omega)
    rw [show p10 8 = 100000000 from rfl] at this
    omega
theorem abs_gt {m x n y : Int} (hm : ok m x = true) (hn : ok n y = true) (hm0 : m ≠ 0) (hn0 : n ≠ 0) (h : dn n + y < dn m + x) : (n.natAbs : Int) * p10 (y + 8) < (m.natAbs : Int) * p10 (x + 8) := by
  have bm := ok_bd hm
  have bn := ok_bd hn
  obtain ⟨m1, m2, m3, m4⟩ := dn_bd hm hm0
  obtain ⟨n1, n2, n3, n4⟩ := dn_bd hn hn0
  have a1 : p10 (dn m - 1) * p10 (x + 8) ≤ (m.natAbs : Int) * p10 (x + 8) := Int.mul_le_mul_of_nonneg_right m3 (by have := p10_pos (x + 8); omega)
  have a2 : (n.natAbs : Int) * p10 (y + 8) < p10 (dn n) * p10 (y + 8) := Int.mul_lt_mul_of_pos_right n4 (by have := p10_pos (y + 8); omega)
  rw [← p10_add (by omega) (by omega)] at a1 a2
  have a3 : p10 (dn n + (y + 8)) ≤ p10 (dn m - 1 + (x + 8)) := p10_mono (by omega)
  omega
/-- l1Cmp -/
def cmpS (m x n y : Int) : Int :=
  if sgn m ≠ sgn n then sgn (sgn m - sgn n) else if m = 0 then 0 else
    if dn m + x ≠ dn n + y then sgn (dn m + x - (dn n + y)) * sgn m else sgn (m * p10 (x - y) - n * p10 (y - x))
theorem sgn_cases (v : Int) : (v < 0 ∧ sgn v = -1) ∨ (v = 0 ∧ sgn v = 0) ∨ (0 < v ∧ sgn v = 1) := by
  rcases Int.lt_trichotomy v 0 with h | h | h
  · exact .inl ⟨h, sgn_neg h⟩
  · exact .inr (.inl ⟨h, by subst h; rfl⟩)
  · exact .inr (.inr ⟨h, sgn_pos h⟩)
theorem val_sgn (m x : Int) : sgn (val m x) = sgn m := sgn_mul (p10_pos _)
theorem cmpS_eq {m x n y : Int} (hm : ok m x = true) (hn : ok n y = true) : cmpS m x n y = cmp m x n y := by
  have bm := ok_bd hm
  have bn := ok_bd hn
  have vm := val_sgn m x
  have vn := val_sgn n y
  rw [cmp, if_pos ⟨hm, hn⟩, cmpS]
  by_cases hs : sgn m ≠ sgn n
  · rw [if_pos hs]
    rw [← vm, ← vn] at hs ⊢
    generalize val m x = a at *
    generalize val n y = b at *
    rcases sgn_cases a with ⟨ha, ea⟩ | ⟨ha, ea⟩ | ⟨ha, ea⟩ <;> rcases sgn_cases b with ⟨hb, eb⟩ | ⟨hb, eb⟩ | ⟨hb, eb⟩ <;> rw [ea, eb] at hs ⊢ <;> first | (exfalso; exact hs rfl) | (rw [sgn_pos (v := a - b) (by omega)]; rfl) | (rw [sgn_neg (v := a - b) (by omega)]; rfl)
  · rw [if_neg hs]
    have hs' : sgn m = sgn n := by omega
    by_cases hm0 : m = 0
    · rw [if_pos hm0]
      have hn0 : n = 0 := by
        subst hm0
        rcases sgn_cases n with ⟨hb, eb⟩ | ⟨hb, eb⟩ | ⟨hb, eb⟩
        · rw [eb] at hs'; simp [sgn] at hs'
        · exact hb
        · rw [eb] at hs'; simp [sgn] at hs'
      subst hm0 hn0; simp [val, sgn]
    · rw [if_neg hm0]
      have hn0 : n ≠ 0 := by
        intro h; subst h
        rcases sgn_cases m with ⟨hb, eb⟩ | ⟨hb, eb⟩ | ⟨hb, eb⟩
        · rw [eb] at hs'; simp [sgn] at hs'
        · exact hm0 hb
        · rw [eb] at hs'; simp [sgn] at hs'
      by_cases hd : dn m + x ≠ dn n + y
      · rw [if_pos hd]
        have em : val m x = m * p10 (x + 8) := rfl
        have en : val n y = n * p10 (y + 8) := rfl
        rcases sgn_cases m with ⟨ha, ea⟩ | ⟨ha, ea⟩ | ⟨ha, ea⟩
        · have hnn : n < 0 := by
            rcases sgn_cases n with ⟨hb, eb⟩ | ⟨hb, eb⟩ | ⟨hb, eb⟩
            · exact hb
            · exact absurd hb hn0
            · rw [ea, eb] at hs'; simp at hs'
          have e1 : (m.natAbs : Int) * p10 (x + 8) = -(m * p10 (x + 8)) := by rw [show (m.natAbs : Int) = -m from by omega, Int.neg_mul]
          have e2 : (n.natAbs : Int) * p10 (y + 8) = -(n * p10 (y + 8)) := by rw [show (n.natAbs : Int) = -n from by omega, Int.neg_mul]
          rcases Int.lt_or_gt_of_ne hd with h | h
          · have := abs_gt hn hm hn0 hm0 h
            rw [ea, sgn_neg (by omega), sgn_pos (by omega)]; rfl
          · have := abs_gt hm hn hm0 hn0 h
            rw [ea, sgn_pos (by omega), sgn_neg (by omega)]; rfl
        · exact absurd ha hm0
        · have hnn : 0 < n := by
            rcases sgn_cases n with ⟨hb, eb⟩ | ⟨hb, eb⟩ | ⟨hb, eb⟩
            · rw [ea, eb] at hs'; simp at hs'
            · exact absurd hb hn0
            · exact hb
          have e1 : (m.natAbs : Int) = m := by omega
          have e2 : (n.natAbs : Int) = n := by omega
          rcases Int.lt_or_gt_of_ne hd with h | h
          · have := abs_gt hn hm hn0 hm0 h
            rw [e1, e2] at this
            rw [ea, sgn_neg (by omega), sgn_neg (by omega)]; rfl
          · have := abs_gt hm hn hm0 hn0 h
            rw [e1, e2] at this
            rw [ea, sgn_pos (by omega), sgn_pos (by omega)]; rfl
      · rw [if_neg hd]
        by_cases hxy : y ≤ x
        · rw [val_at (m := m) (p := y) hxy (by omega), val, ← Int.sub_mul, sgn_mul (p10_pos _), p10_nonpos (y - x) (by omega), Int.mul_one]
        · rw [val_at (m := n) (p := x) (by omega) (by omega), val, ← Int.sub_mul, sgn_mul (p10_pos _), p10_nonpos (x - y) (by omega), Int.mul_one]
end Go.Proofs.Ytpgpkdeiapeoiaa.Dm
/- Plain mathematics: the text of a decimal. -/
namespace Go.Proofs.Ytpgpkdeiapeoiaa.Tm
def dig (n j : Nat) : UInt8 := UInt8.ofNat (48 + n / 10 ^ j % 10)
/-- the last c figures of a whole number, the greatest first -/
def dstr (n : Nat) : Nat → List UInt8
  | 0 => []
  | c + 1 => dig n c :: dstr n c
/-- a figures, those ahead of the last b -/
def dsl (n b : Nat) : Nat → List UInt8
  | 0 => []
  | a + 1 => dig n (a + b) :: dsl n b a
theorem dstr_len (n c : Nat) : (dstr n c).length = c := by induction c with
  | zero => rfl
  | succ c ih => simp [dstr, ih]
theorem dsl_len (n b a : Nat) : (dsl n b a).length = a := by induction a with
  | zero => rfl
  | succ a ih => simp [dsl, ih]
theorem dstr_add (n b a : Nat) : dstr n (a + b) = dsl n b a ++ dstr n b := by induction a with
  | zero => simp [dsl]
  | succ a ih => rw [Nat.succ_add]; show dig n (a + b) :: dstr n (a + b) = _; rw [ih]; rfl
theorem dig_succ (n c : Nat) : dig n (c + 1) = dig (n / 10) c := by unfold dig; rw [Nat.pow_succ, Nat.mul_comm, ← Nat.div_div_eq_div_mul]
theorem dstr_snoc (n c : Nat) : dstr n (c + 1) = dstr (n / 10) c ++ [dig n 0] := by
  induction c with
  | zero => rfl
  | succ c ih => show dig n (c + 1) :: dstr n (c + 1) = dig (n / 10) c :: dstr (n / 10) c ++ [dig n 0]; rw [ih, dig_succ]; rfl
theorem dig_zero (n : Nat) : dig n 0 = UInt8.ofNat (48 + n % 10) := by simp [dig]
theorem digs_dstr (k : Nat) : ∀ n, Dm.digs k n = dstr n (Dm.digs k n).length := by
  induction k with
  | zero => intro n; rfl
  | succ k ih =>
    intro n
    by_cases h : n < 10
    · have e : Dm.digs (k + 1) n = [UInt8.ofNat (48 + n)] := by rw [Dm.digs, if_pos h]
      rw [e]; show _ = [dig n 0]; rw [dig_zero, Nat.mod_eq_of_lt h]
    · have e : Dm.digs (k + 1) n = Dm.digs k (n / 10) ++ [UInt8.ofNat (48 + n % 10)] := by rw [Dm.digs, if_neg h]
      rw [e, List.length_append, List.length_singleton, dstr_snoc, dig_zero, ← ih]
def nd : Nat → Nat → Nat
  | 0, _ => 0
  | f + 1, n => if n = 0 then 0 else 1 + nd f (n / 10)
theorem nd_zero (f : Nat) : nd f 0 = 0 := by cases f <;> simp [nd]
theorem nd_succ (f n : Nat) (h : n ≠ 0) : nd (f + 1) n = 1 + nd f (n / 10) := by simp [nd, h]
theorem digs_nd (k : Nat) : ∀ n, (Dm.digs (k + 1) n).length = 1 + nd k (n / 10) := by
  induction k with
  | zero => intro n; rw [Dm.digs]; split <;> simp [Dm.digs, nd]
  | succ k ih =>
    intro n
    rw [Dm.digs]
    by_cases h : n < 10
    · rw [if_pos h, show n / 10 = 0 by omega, nd_zero]; rfl
    · rw [if_neg h, List.length_append, List.length_singleton, ih, nd_succ _ _ (by omega)]; omega
def cnt (n : Nat) : Nat := (Dm.digs 9 n).length
theorem cnt_pos (n : Nat) : 1 ≤ cnt n := by unfold cnt; rw [digs_nd]; omega
theorem cnt_le (n : Nat) : cnt n ≤ 9 := Dm.digs_len 9 n
theorem lt_cnt (n : Nat) (h : n ≤ 99999999) : n < 10 ^ cnt n := by
  by_cases h0 : n = 0
  · subst h0; exact Nat.pow_pos (by omega)
  · exact (Dm.digs_log 9 n (by omega) (by omega)).2.2
theorem dig_none {n c : Nat} (h : n < 10 ^ c) : dig n c = 48 := by unfold dig; rw [Nat.div_eq_of_lt h]; rfl
/-- the figure at a place -/
def figAt (n : Nat) (x p : Int) : Int := if p < x then 48 else 48 + ((n / 10 ^ (p - x).toNat % 10 : Nat) : Int)
theorem figAt_bd (n : Nat) (x p : Int) : 48 ≤ figAt n x p ∧ figAt n x p ≤ 57 := by
  unfold figAt; split
  · omega
  · have := Nat.mod_lt (n / 10 ^ (p - x).toNat) (show 10 > 0 by omega); omega
/-- places and their figures, downward from p -/
def fl (n : Nat) (x p : Int) : Nat → List (Int × Int)
  | 0 => []
  | c + 1 => (p, figAt n x p) :: fl n x (p - 1) c
theorem fl_len (n : Nat) (x : Int) (c : Nat) : ∀ p, (fl n x p c).length = c := by induction c with
  | zero => intro p; rfl
  | succ c ih => intro p; simp [fl, ih]
theorem fl_add (n : Nat) (x : Int) (b : Nat) (a : Nat) : ∀ p : Int, fl n x p (a + b) = fl n x p a ++ fl n x (p - a) b := by
  induction a with
  | zero => intro p; simp [fl]
  | succ a ih => intro p; rw [Nat.succ_add]; show (p, figAt n x p) :: fl n x (p - 1) (a + b) = _; rw [ih, show p - 1 - (a : Int) = p - ((a + 1 : Nat) : Int) by omega]; rfl
theorem fl_snoc (n : Nat) (x p : Int) (a : Nat) : fl n x p (a + 1) = fl n x p a ++ [(p - a, figAt n x (p - a))] := by rw [fl_add]; rfl
def one (y : Int × Int) : List UInt8 := (if y.1 = -1 then [46] else []) ++ [UInt8.ofNat y.2.toNat]
def txt (l : List (Int × Int)) : List UInt8 := l.flatMap one
theorem txt_snoc (l : List (Int × Int)) (y : Int × Int) : txt (l ++ [y]) = txt l ++ one y := by simp [txt]
theorem one_fig (n : Nat) (x p : Int) (h : p ≠ -1) (hx : x ≤ p) : one (p, figAt n x p) = [dig n (p - x).toNat] := by
  unfold one figAt dig
  rw [if_neg h, if_neg (by omega)]
  simp only [List.nil_append]
  congr 2
theorem one_nought (n : Nat) (x p : Int) (h : p ≠ -1) (hx : p < x) : one (p, figAt n x p) = [48] := by
  unfold one figAt; rw [if_neg h, if_pos hx]; rfl
theorem one_point (n : Nat) (x : Int) (hx : x ≤ -1) : one (-1, figAt n x (-1)) = [46, dig n (-1 - x).toNat] := by
  unfold one figAt dig
  rw [if_pos rfl, if_neg (by omega)]
  simp only [List.cons_append, List.nil_append]
  congr 3
theorem txt_cons (y : Int × Int) (l : List (Int × Int)) : txt (y :: l) = one y ++ txt l := by simp [txt]
/-- figures ahead of the point -/
theorem txt_ahead (n : Nat) (x : Int) (b : Nat) (a : Nat) : ∀ p : Int, p = (a : Int) + b + x - 1 → 0 ≤ (b : Int) + x → txt (fl n x p a) = dsl n b a := by
  induction a with
  | zero => intro p _ _; rfl
  | succ a ih =>
    intro p hp hb
    show txt ((p, figAt n x p) :: fl n x (p - 1) a) = dig n (a + b) :: dsl n b a
    rw [txt_cons, one_fig n x p (by omega) (by omega), ih (p - 1) (by omega) hb, show (p - x).toNat = a + b by omega]; rfl
theorem txt_noughts (n : Nat) (x : Int) (a : Nat) : ∀ p : Int, p = (a : Int) - 1 → p < x → txt (fl n x p a) = List.replicate a 48 := by
  induction a with
  | zero => intro p _ _; rfl
  | succ a ih =>
    intro p hp hx
    show txt ((p, figAt n x p) :: fl n x (p - 1) a) = _
    rw [txt_cons, one_nought n x p (by omega) hx, ih (p - 1) (by omega) (by omega), List.replicate_succ]; rfl
/-- figures behind the point, the first aside -/
theorem txt_behind (n : Nat) (x : Int) (a : Nat) : ∀ p : Int, p = (a : Int) + x - 1 → p < -1 → txt (fl n x p a) = dstr n a := by
  induction a with
  | zero => intro p _ _; rfl
  | succ a ih =>
    intro p hp hx
    show txt ((p, figAt n x p) :: fl n x (p - 1) a) = dig n a :: dstr n a
    rw [txt_cons, one_fig n x p (by omega) (by omega), ih (p - 1) (by omega) (by omega), show (p - x).toNat = a by omega]; rfl
/-- the text of a number that is not below 0 -/
def body (n : Nat) (x : Int) : List UInt8 :=
  if 0 ≤ x then dstr n (cnt n) ++ List.replicate x.toNat 48
  else dsl n (-x).toNat (max (cnt n) ((-x).toNat + 1) - (-x).toNat) ++ 46 :: dstr n (-x).toNat
def hi (n : Nat) (x : Int) : Int := max (x + cnt n - 1) 0
def lo (x : Int) : Int := min x 0
theorem txt_body (n : Nat) (x : Int) : txt (fl n x (hi n x) (hi n x - lo x + 1).toNat) = body n x := by
  have hc := cnt_pos n
  unfold body
  by_cases h : 0 ≤ x
  · rw [if_pos h]
    have e : (hi n x - lo x + 1).toNat = cnt n + x.toNat := by unfold hi lo; omega
    rw [e, fl_add]
    have e1 : txt (fl n x (hi n x) (cnt n)) = dsl n 0 (cnt n) := txt_ahead n x 0 (cnt n) _ (by unfold hi; omega) (by omega)
    have e2 : txt (fl n x (hi n x - (cnt n : Int)) x.toNat) = List.replicate x.toNat 48 := txt_noughts n x x.toNat _ (by unfold hi; omega) (by unfold hi; omega)
    have e3 := dstr_add n 0 (cnt n)
    simp only [Nat.add_zero, dstr, List.append_nil] at e3
    unfold txt at *
    rw [List.flatMap_append, e1, e2, ← e3]
  · rw [if_neg h]
    obtain ⟨k, hk⟩ : ∃ k : Nat, x = -((k : Int) + 1) := ⟨(-x - 1).toNat, by omega⟩
    have ek : (-x).toNat = k + 1 := by omega
    rw [ek]
    have e : (hi n x - lo x + 1).toNat = (max (cnt n) (k + 1 + 1) - (k + 1)) + (k + 1) := by unfold hi lo; omega
    rw [e, fl_add]
    have e1 : txt (fl n x (hi n x) (max (cnt n) (k + 1 + 1) - (k + 1))) = dsl n (k + 1) (max (cnt n) (k + 1 + 1) - (k + 1)) := txt_ahead n x (k + 1) _ _ (by unfold hi; omega) (by omega)
    have e2 : hi n x - ((max (cnt n) (k + 1 + 1) - (k + 1) : Nat) : Int) = -1 := by unfold hi; omega
    have e3 : txt (fl n x (-1) (k + 1)) = 46 :: dstr n (k + 1) := by
      show txt ((-1, figAt n x (-1)) :: fl n x (-1 - 1) k) = _
      rw [txt_cons, one_point n x (by omega), txt_behind n x k _ (by omega) (by omega), show (-1 - x).toNat = k by omega]; rfl
    unfold txt at *
    rw [List.flatMap_append, e1, e2, e3]
def text (m x : Int) : List UInt8 := (if m < 0 then [45] else []) ++ body m.natAbs x
theorem body_len (n : Nat) (x : Int) (h1 : -8 ≤ x) (h2 : x ≤ 8) : (body n x).length ≤ 40 := by
  have := cnt_le n
  unfold body; split
  · simp [dstr_len]; omega
  · simp [dstr_len, dsl_len]; omega
/-- the same, the figures as bytes -/
def fig8 (n : Nat) (x p : Int) : UInt8 := UInt8.ofNat (figAt n x p).toNat
theorem fig8_val (n : Nat) (x p : Int) : ((fig8 n x p).toNat : Int) = figAt n x p := by
  have := figAt_bd n x p
  unfold fig8; rw [UInt8.toNat_ofNat']; omega
def fl8 (n : Nat) (x p : Int) : Nat → List (Int × UInt8)
  | 0 => []
  | c + 1 => (p, fig8 n x p) :: fl8 n x (p - 1) c
theorem fl8_len (n : Nat) (x : Int) (c : Nat) : ∀ p, (fl8 n x p c).length = c := by induction c with
  | zero => intro p; rfl
  | succ c ih => intro p; simp [fl8, ih]
theorem fl8_snoc (n : Nat) (x : Int) (a : Nat) : ∀ p : Int, fl8 n x p (a + 1) = fl8 n x p a ++ [(p - a, fig8 n x (p - a))] := by
  induction a with
  | zero => intro p; simp [fl8]
  | succ a ih => intro p; show (p, fig8 n x p) :: fl8 n x (p - 1) (a + 1) = _; rw [ih, show p - 1 - (a : Int) = p - ((a + 1 : Nat) : Int) by omega]; rfl
def one8 (y : Int × UInt8) : List UInt8 := (if y.1 = -1 then [46] else []) ++ [y.2]
def txt8 (l : List (Int × UInt8)) : List UInt8 := l.flatMap one8
theorem txt8_snoc (l : List (Int × UInt8)) (y : Int × UInt8) : txt8 (l ++ [y]) = txt8 l ++ one8 y := by simp [txt8]
theorem txt8_eq (n : Nat) (x : Int) (c : Nat) : ∀ p, txt8 (fl8 n x p c) = txt (fl n x p c) := by
  induction c with
  | zero => intro p; rfl
  | succ c ih =>
    intro p
    show one8 (p, fig8 n x p) ++ txt8 (fl8 n x (p - 1) c) = one (p, figAt n x p) ++ txt (fl n x (p - 1) c)
    rw [ih]; rfl
theorem txt8_len (l : List (Int × UInt8)) : (txt8 l).length ≤ 2 * l.length := by
  induction l with
  | nil => simp [txt8]
  | cons y t ih =>
    show (one8 y ++ txt8 t).length ≤ _
    have : (one8 y).length ≤ 2 := by unfold one8; split <;> simp
    rw [List.length_append, List.length_cons]; omega
end Go.Proofs.Ytpgpkdeiapeoiaa.Tm
/- Contracts of the leaves of chapter 1: within, l1In, l1Big, DecOk of both sides, toDec, eqDec. -/
namespace Go.Proofs.Ytpgpkdeiapeoiaa
open Go.RowKit

theorem ret_bool {a b : Bool} (h : a = b) : Ending.returned (.bool a) = .returned (.bool b) := by rw [h]

set_option maxHeartbeats 400000 in
theorem within_any (n l : Int) (w : World) (h0 : 0 ≤ l) (h1 : l ≤ 1000000000000000000) :
    Calls Try.prog 74 #[.int .i64 n, .int .i64 l] w fun e w' => e = .returned (.bool (decide (-l ≤ n) && decide (n ≤ l))) ∧ w' = w := by
  go_enter Try.func74, Try.ntmps74
  go_wp2
  all_goals
    go_ret
    exact ⟨ret_bool (by simp; try omega), rfl⟩

set_option maxHeartbeats 400000 in
theorem l1In_any (n a b : Int) (w : World) :
    Calls Try.prog 82 #[.int .i64 n, .int .i64 a, .int .i64 b] w fun e w' => e = .returned (.bool (decide (a ≤ n) && decide (n ≤ b))) ∧ w' = w := by
  go_enter Try.func82, Try.ntmps82
  go_wp2
  all_goals
    go_ret
    exact ⟨ret_bool (by simp; try omega), rfl⟩

set_option maxHeartbeats 400000 in
theorem iDecOk_any (m x : Int) (w : World) :
    Calls Try.prog 67 #[.agg #[.int .i64 m, .int .i64 x]] w fun e w' => e = .returned (.bool (Dm.ok m x)) ∧ Below w.heap.size w w' := by
  go_enter Try.func67, Try.ntmps67
  go_wp2
  all_goals
    go_ret
    exact ⟨ret_bool (by simp_all [Dm.ok]; try omega), (Below.refl _ _).alloc (Nat.le_refl _) _⟩

set_option maxHeartbeats 400000 in
theorem sDecOk_any (m x : Int) (w : World) :
    Calls Try.prog 71 #[.agg #[.int .i64 m, .int .i64 x]] w fun e w' => e = .returned (.bool (Dm.ok m x)) ∧ Below w.heap.size w w' := by
  go_enter Try.func71, Try.ntmps71
  go_wp2
  all_goals
    go_ret
    exact ⟨ret_bool (by simp_all [Dm.ok]; try omega), (Below.refl _ _).alloc (Nat.le_refl _) _⟩

end Go.Proofs.Ytpgpkdeiapeoiaa
/- Small facts on worlds. -/
namespace Go.Proofs.Ytpgpkdeiapeoiaa
open Go.RowKit
theorem bcell {W w1 : World} (hb : Below W.heap.size W w1) : (∀ b o, b < W.heap.size → w1.cell? ⟨b, o, none⟩ = W.cell? ⟨b, o, none⟩) ∧ (∀ b o, b < W.heap.size → w1.frozen? ⟨b, o, none⟩ = W.frozen? ⟨b, o, none⟩) :=
  ⟨fun b o h => hb.cell (p := ⟨b, o, none⟩) h, fun b o h => hb.frozen (p := ⟨b, o, none⟩) h⟩

/-- every cell that was there is as it was, and may be written as before: two rules that need no reckoning with blocks -/
theorem bsome {W w1 : World} (hb : Below W.heap.size W w1) : (∀ b o, (W.cell? ⟨b, o, none⟩).isSome = true → w1.cell? ⟨b, o, none⟩ = W.cell? ⟨b, o, none⟩) ∧ (∀ b o, (W.cell? ⟨b, o, none⟩).isSome = true → w1.frozen? ⟨b, o, none⟩ = W.frozen? ⟨b, o, none⟩) := by
  refine ⟨fun b o h => ?_, fun b o h => ?_⟩
  · obtain ⟨u, hu⟩ := Option.isSome_iff_exists.1 h
    exact hb.cell (p := ⟨b, o, none⟩) (World.block_lt_of_cell? W _ hu)
  · obtain ⟨u, hu⟩ := Option.isSome_iff_exists.1 h
    exact hb.frozen (p := ⟨b, o, none⟩) (World.block_lt_of_cell? W _ hu)
theorem below_step {X W w1 : World} (h : Below X.heap.size X W) (k : Below W.heap.size W w1) : Below X.heap.size X w1 := h.trans (k.mono h.size)
theorem two_set {W : World} {b : Nat} (h0 : (W.cell? ⟨b, 0, none⟩).isSome = true) (h1 : (W.cell? ⟨b, 1, none⟩).isSome = true) (u v : Value) :
    ((W.setCell ⟨b, 0, none⟩ u).setCell ⟨b, 1, none⟩ v).cell? ⟨b, 0, none⟩ = some u ∧ ((W.setCell ⟨b, 0, none⟩ u).setCell ⟨b, 1, none⟩ v).cell? ⟨b, 1, none⟩ = some v := by
  have e1 : (W.setCell ⟨b, 0, none⟩ u).cell? ⟨b, 1, none⟩ = W.cell? ⟨b, 1, none⟩ := World.cell?_setCell_other _ _ _ _ (by simp)
  have e0 := World.cell?_setCell_same' W ⟨b, 0, none⟩ u h0
  refine ⟨(World.cell?_setCell_other _ _ _ _ (by simp)).trans e0, World.cell?_setCell_same' _ _ _ (by rw [e1]; exact h1)⟩
theorem cell_alloc_is (w : World) (b o : Nat) (x : Obj) (h : (w.cell? ⟨b, o, none⟩).isSome = true) : (w.alloc x).cell? ⟨b, o, none⟩ = w.cell? ⟨b, o, none⟩ :=
  (bsome ((Below.refl _ w).alloc (Nat.le_refl _) x)).1 b o h
theorem frozen_alloc_is (w : World) (b o : Nat) (x : Obj) (h : (w.cell? ⟨b, o, none⟩).isSome = true) : (w.alloc x).frozen? ⟨b, o, none⟩ = w.frozen? ⟨b, o, none⟩ :=
  (bsome ((Below.refl _ w).alloc (Nat.le_refl _) x)).2 b o h

end Go.Proofs.Ytpgpkdeiapeoiaa
/- Contracts: l1New, stripped, DecNew of both sides. -/
namespace Go.Proofs.Ytpgpkdeiapeoiaa
open Go.RowKit

/-- the two cells of a decimal that lies in block b, and that they may be written -/
def Two (w : World) (b : Nat) (m e : Int) : Prop :=
  w.cell? ⟨b, 0, none⟩ = some (.int .i64 m) ∧ w.cell? ⟨b, 1, none⟩ = some (.int .i64 e) ∧ w.frozen? ⟨b, 0, none⟩ = false ∧ w.frozen? ⟨b, 1, none⟩ = false
theorem Two.new (w : World) (m e : Int) (T : TypeId) : Two (w.alloc (.cells #[.int .i64 m, .int .i64 e] T)) w.heap.size m e := ⟨by simp, by simp, by simp, by simp⟩
theorem Two.below {w w' : World} {B b : Nat} {m e : Int} (h : Two w b m e) (hb : Below B w w') (hB : b < B) : Two w' b m e :=
  ⟨(hb.cell (p := ⟨b, 0, none⟩) hB).trans h.1, (hb.cell (p := ⟨b, 1, none⟩) hB).trans h.2.1, (hb.frozen (p := ⟨b, 0, none⟩) hB).trans h.2.2.1, (hb.frozen (p := ⟨b, 1, none⟩) hB).trans h.2.2.2⟩
theorem Two.alloc {w : World} {b : Nat} {m e : Int} (h : Two w b m e) (hb : b < w.heap.size) (o : Obj) : Two (w.alloc o) b m e :=
  h.below (((Below.refl w.heap.size w).alloc (Nat.le_refl _) o)) hb
/-- a decimal and a truth, as a call hands them back -/
abbrev dec3 (r : Int × Int × Bool) : Ending := .returned (.tuple #[.agg #[.int .i64 r.1, .int .i64 r.2.1], .bool r.2.2])

end Go.Proofs.Ytpgpkdeiapeoiaa
/- Contracts: DecMul of both sides. -/
namespace Go.Proofs.Ytpgpkdeiapeoiaa
open Go.RowKit

/-- two decimals that came in, and the one that goes out, in three blocks in a row -/
def Three (w : World) (b : Nat) (m x n y p q : Int) : Prop := Two w b m x ∧ Two w (b + 1) n y ∧ Two w (b + 2) p q ∧ b + 2 < w.heap.size
theorem Three.new (w : World) (m x n y p q : Int) (T U V : TypeId) : Three (((w.alloc (.cells #[.int .i64 m, .int .i64 x] T)).alloc (.cells #[.int .i64 n, .int .i64 y] U)).alloc (.cells #[.int .i64 p, .int .i64 q] V)) w.heap.size m x n y p q := by
  have h1 := Two.new w m x T
  have h2 := Two.new (w.alloc (.cells #[.int .i64 m, .int .i64 x] T)) n y U
  have h3 := Two.new ((w.alloc (.cells #[.int .i64 m, .int .i64 x] T)).alloc (.cells #[.int .i64 n, .int .i64 y] U)) p q V
  rw [World.size_alloc] at h2 h3
  rw [World.size_alloc] at h3
  exact ⟨(h1.alloc (by simp) _).alloc (by simp; omega) _, h2.alloc (by simp) _, h3, by simp⟩
theorem Three.below {w w' : World} {b : Nat} {m x n y p q : Int} (h : Three w b m x n y p q) (hb : Below w.heap.size w w') : Three w' b m x n y p q := by
  obtain ⟨h1, h2, h3, h4⟩ := h
  have := hb.size
  exact ⟨h1.below hb (by omega), h2.below hb (by omega), h3.below hb (by omega), by omega⟩
theorem below3 (w : World) (a b c : Obj) : Below w.heap.size w (((w.alloc a).alloc b).alloc c) := (by (repeat' (first | assumption | exact Below.refl _ _ | refine Below.alloc ?_ ?_ _ | refine Below.setCell ?_ ?_ _ | refine Below.drew ?_ | refine below_drewN ?_ _)) <;> (first | omega | (simp <;> omega)))

end Go.Proofs.Ytpgpkdeiapeoiaa
/- Contracts: l1Least, l1Up, tenTo, manAt, l1Add, DecAdd of both sides. -/
namespace Go.Proofs.Ytpgpkdeiapeoiaa
open Go.RowKit

theorem ret_int {k : IntKind} {a b : Int} (h : a = b) : Ending.returned (.int k a) = .returned (.int k b) := by rw [h]
/-- a number and a truth, as a call hands them back -/
abbrev int2 (r : Int × Bool) : Ending := .returned (.tuple #[.int .i64 r.1, .bool r.2])

set_option maxHeartbeats 400000 in
theorem tenTo_any (p : Int) (w : World) (h0 : 0 ≤ p) (h1 : p ≤ 18) :
    Calls Try.prog 85 #[.int .i64 p] w fun e w' => e = .returned (.int .i64 (Dm.p10 p)) ∧ w' = w := by
  go_enter Try.func85, Try.ntmps85
  go_wp2
  go_loop [3, 5] (fun t i => ∃ k : Int, 0 ≤ k ∧ k ≤ p ∧ i = .int .i64 k ∧ t = .int .i64 (Dm.p10 k)) (fun _ i => (p - intOf i).toNat)
  case atStart => exact ⟨0, by omega, by omega, rfl, rfl⟩
  case round =>
    obtain ⟨k, hk0, hk1, rfl, rfl⟩ := hrel
    by_cases hlt : k < p
    · have hp := Dm.p10_pos k
      have hb := Dm.p10_mono (j := k) (k := 17) (by omega)
      have hb2 : Dm.p10 17 = 100000000000000000 := rfl
      rw [hb2] at hb
      clear hb2
      have HS : Hid (Dm.p10 (k + 1) = Dm.p10 k * 10) := Dm.p10_succ k hk0
      go_wp2
      go_round
      case rel => exact ⟨k + 1, by omega, by omega, by go_num, by rw [HS.out]⟩
      case measure => simp [intOf]; omega
    · have : k = p := by omega
      subst this
      go_wp2
      go_ret
      exact ⟨rfl, rfl⟩

end Go.Proofs.Ytpgpkdeiapeoiaa
/- Contracts: l1Add, DecAdd of both sides. -/
namespace Go.Proofs.Ytpgpkdeiapeoiaa
open Go.RowKit

theorem hideIt {p : Prop} (h : p) : Hid p := h
theorem Dm.up_bd (k : Nat) (n : Int) (h1 : -1000000000 ≤ n) (h2 : n ≤ 1000000000) : -1000000000 ≤ (Dm.up k n).1 ∧ (Dm.up k n).1 ≤ 1000000000 := by
  induction k generalizing n with
  | zero => exact ⟨h1, h2⟩
  | succ k ih =>
    rw [Dm.up]
    by_cases h : 1000000000 < n * 10 ∨ n * 10 < -1000000000
    · rw [if_pos h]; exact ⟨by decide, by decide⟩
    · rw [if_neg h]; exact ih _ (by omega) (by omega)

end Go.Proofs.Ytpgpkdeiapeoiaa
/- What is held of the world while two decimals that lie in memory are handed on to calls, in whatever order. -/
namespace Go.Proofs.Ytpgpkdeiapeoiaa
open Go.RowKit

/-- two decimals lie in blocks b and d, and nothing that was there in W0 has turned -/
def Held (W0 : World) (b d : Nat) (m x n y : Int) (w' : World) : Prop :=
  w'.cell? ⟨b, 0, none⟩ = some (.int .i64 m) ∧ w'.cell? ⟨b, 1, none⟩ = some (.int .i64 x) ∧ w'.cell? ⟨d, 0, none⟩ = some (.int .i64 n) ∧ w'.cell? ⟨d, 1, none⟩ = some (.int .i64 y) ∧ Below W0.heap.size W0 w'
theorem lt_of_cell {W : World} {b o : Nat} {v : Value} (h : W.cell? ⟨b, o, none⟩ = some v) : b < W.heap.size := World.block_lt_of_cell? W _ h
theorem Held.below {W0 W w1 : World} {b d : Nat} {m x n y : Int} (h : Held W0 b d m x n y W) (hb : Below W.heap.size W w1) : Held W0 b d m x n y w1 := by
  obtain ⟨h1, h2, h3, h4, h6⟩ := h
  have := hb.size
  have := h6.size
  have b0 := lt_of_cell h1
  have d0 := lt_of_cell h3
  exact ⟨(hb.cell (p := ⟨b, 0, none⟩) b0).trans h1, (hb.cell (p := ⟨b, 1, none⟩) b0).trans h2, (hb.cell (p := ⟨d, 0, none⟩) d0).trans h3, (hb.cell (p := ⟨d, 1, none⟩) d0).trans h4, h6.trans (hb.mono (by omega))⟩
theorem Held.alloc {W0 W : World} {b d : Nat} {m x n y : Int} (h : Held W0 b d m x n y W) (o : Obj) : Held W0 b d m x n y (W.alloc o) := h.below ((Below.refl _ _).alloc (Nat.le_refl _) o)
theorem Held.drew {W0 W : World} {b d : Nat} {m x n y : Int} (h : Held W0 b d m x n y W) : Held W0 b d m x n y W.drew := h.below ((Below.refl _ _).drew)
theorem Held.start {W : World} {b d : Nat} {m x n y : Int} (h1 : W.cell? ⟨b, 0, none⟩ = some (.int .i64 m)) (h2 : W.cell? ⟨b, 1, none⟩ = some (.int .i64 x)) (h3 : W.cell? ⟨d, 0, none⟩ = some (.int .i64 n)) (h4 : W.cell? ⟨d, 1, none⟩ = some (.int .i64 y)) : Held W b d m x n y W :=
  ⟨h1, h2, h3, h4, Below.refl _ _⟩
theorem Held.set {W0 W : World} {b d : Nat} {m x n y : Int} (h : Held W0 b d m x n y W) (hb : b < W0.heap.size) (hd : d < W0.heap.size) {k : Nat} (hk : W0.heap.size ≤ k) (u v : Value) : Held W0 b d m x n y ((W.setCell ⟨k, 0, none⟩ u).setCell ⟨k, 1, none⟩ v) := by
  have q : Below W0.heap.size W ((W.setCell ⟨k, 0, none⟩ u).setCell ⟨k, 1, none⟩ v) := ((Below.refl _ W).setCell (p := ⟨k, 0, none⟩) hk u).setCell (p := ⟨k, 1, none⟩) hk v
  obtain ⟨h1, h2, h3, h4, h6⟩ := h
  exact ⟨(q.cell (p := ⟨b, 0, none⟩) hb).trans h1, (q.cell (p := ⟨b, 1, none⟩) hb).trans h2, (q.cell (p := ⟨d, 0, none⟩) hd).trans h3, (q.cell (p := ⟨d, 1, none⟩) hd).trans h4, h6.trans q⟩

/-- the same, but of blocks below k alone it is said that they have not turned -/
def HeldK (k : Nat) (W0 : World) (b d : Nat) (m x n y : Int) (w' : World) : Prop :=
  w'.cell? ⟨b, 0, none⟩ = some (.int .i64 m) ∧ w'.cell? ⟨b, 1, none⟩ = some (.int .i64 x) ∧ w'.cell? ⟨d, 0, none⟩ = some (.int .i64 n) ∧ w'.cell? ⟨d, 1, none⟩ = some (.int .i64 y) ∧ k ≤ w'.heap.size ∧ Below k W0 w'
theorem HeldK.below {k : Nat} {W0 W w1 : World} {b d : Nat} {m x n y : Int} (h : HeldK k W0 b d m x n y W) (hb : Below W.heap.size W w1) : HeldK k W0 b d m x n y w1 := by
  obtain ⟨h1, h2, h3, h4, h5, h6⟩ := h
  have := hb.size
  have b0 := lt_of_cell h1
  have d0 := lt_of_cell h3
  exact ⟨(hb.cell (p := ⟨b, 0, none⟩) b0).trans h1, (hb.cell (p := ⟨b, 1, none⟩) b0).trans h2, (hb.cell (p := ⟨d, 0, none⟩) d0).trans h3, (hb.cell (p := ⟨d, 1, none⟩) d0).trans h4, by omega, h6.trans (hb.mono (by omega))⟩
theorem HeldK.drew {k : Nat} {W0 W : World} {b d : Nat} {m x n y : Int} (h : HeldK k W0 b d m x n y W) : HeldK k W0 b d m x n y W.drew := h.below ((Below.refl _ _).drew)
theorem HeldK.start {k : Nat} {W : World} {b d : Nat} {m x n y : Int} (h1 : W.cell? ⟨b, 0, none⟩ = some (.int .i64 m)) (h2 : W.cell? ⟨b, 1, none⟩ = some (.int .i64 x)) (h3 : W.cell? ⟨d, 0, none⟩ = some (.int .i64 n)) (h4 : W.cell? ⟨d, 1, none⟩ = some (.int .i64 y)) (h5 : k ≤ W.heap.size) : HeldK k W b d m x n y W :=
  ⟨h1, h2, h3, h4, h5, Below.refl _ _⟩
theorem HeldK.set {k : Nat} {W0 W : World} {b d : Nat} {m x n y : Int} (h : HeldK k W0 b d m x n y W) (hb : b < k) (hd : d < k) {j : Nat} (hk : k ≤ j) (u v : Value) : HeldK k W0 b d m x n y ((W.setCell ⟨j, 0, none⟩ u).setCell ⟨j, 1, none⟩ v) := by
  have q : Below k W ((W.setCell ⟨j, 0, none⟩ u).setCell ⟨j, 1, none⟩ v) := ((Below.refl _ W).setCell (p := ⟨j, 0, none⟩) hk u).setCell (p := ⟨j, 1, none⟩) hk v
  obtain ⟨h1, h2, h3, h4, h5, h6⟩ := h
  have := q.size
  exact ⟨(q.cell (p := ⟨b, 0, none⟩) hb).trans h1, (q.cell (p := ⟨b, 1, none⟩) hb).trans h2, (q.cell (p := ⟨d, 0, none⟩) hd).trans h3, (q.cell (p := ⟨d, 1, none⟩) hd).trans h4, by omega, h6.trans q⟩
end Go.Proofs.Ytpgpkdeiapeoiaa
/- Contracts: l1Neg, opposite, DecSub of both sides. -/
namespace Go.Proofs.Ytpgpkdeiapeoiaa
open Go.RowKit
attribute [local go_sem] cell_alloc_is frozen_alloc_is
theorem wf_bd {n : Int} (h : (Lit.int .i64 n).wf = true) : -9223372036854775808 ≤ n ∧ n ≤ 9223372036854775807 := bounds_i64 h

set_option maxHeartbeats 400000 in
theorem l1Neg_any (m x : Int) (w : World) (h1 : -9223372036854775807 ≤ m) (h2 : m ≤ 9223372036854775807) :
    Calls Try.prog 60 #[.agg #[.int .i64 m, .int .i64 x]] w fun e w' => e = .returned (.agg #[.int .i64 (-m), .int .i64 x]) ∧ Below w.heap.size w w' := by
  go_enter Try.func60, Try.ntmps60
  go_wp2
  exact bodyPost_ret (v := .agg #[.int .i64 (-m), .int .i64 x]) (by simp [results, Try.results60, go_sem]) rfl ⟨rfl, (by (repeat' (first | assumption | exact Below.refl _ _ | refine Below.alloc ?_ ?_ _ | refine Below.setCell ?_ ?_ _ | refine Below.drew ?_ | refine below_drewN ?_ _)) <;> (first | omega | (simp <;> omega)))⟩

end Go.Proofs.Ytpgpkdeiapeoiaa
/- Contracts: l1Dec (the decimal text of a whole number). -/
namespace Go.Proofs.Ytpgpkdeiapeoiaa
open Go.RowKit
attribute [local go_sem] cell_alloc_is frozen_alloc_is

theorem conv_one (W : World) (b : Nat) (c : Int) (h0 : 0 ≤ c) (h1 : c ≤ 255) (hc : W.cell? ⟨b, 0, none⟩ = some (.int .u8 c)) :
    (convert 46 9 (.slice (some ⟨b, 0, none⟩) 1 1)).run Try.prog W = .ok (.string ⟨#[UInt8.ofNat c.toNat]⟩) W := by
  have e : (UInt8.ofNat c.toNat).toNat = c.toNat := by rw [UInt8.toNat_ofNat']; omega
  exact run_convert_bytes_back (P := Try.prog) W 46 9 5 ⟨b, 0, none⟩ 1 [UInt8.ofNat c.toNat] Try.underlying46 Try.underlying5 Try.underlying9 (by
    intro j hj
    have hj0 : j = 0 := by simp at hj; omega
    subst hj0
    simp only [List.getElem_cons_zero, e]
    rw [show ((c.toNat : Nat) : Int) = c from by omega]
    exact hc)

theorem hideIt2 {p : Prop} (h : p) : Hid p := h
set_option maxHeartbeats 1000000 in
theorem l1Dec_small (k : Nat) (n : Int) (w : World) (h1 : 0 ≤ n) (hn : n < 10) :
    Calls Try.prog 61 #[.int .i64 n] w fun e w' => e = .returned (.string ⟨(Dm.digs (k + 1) n.toNat).toArray⟩) ∧ Below w.heap.size w w' := by
  have hcv := fun W b => conv_one W b (48 + n) (by omega) (by omega)
  have HF : Hid (Dm.digs (k + 1) n.toNat = [UInt8.ofNat (48 + n).toNat]) := by
    unfold Hid; rw [Dm.digs, if_pos (by omega), show (48 + n).toNat = 48 + n.toNat from by omega]
  go_enter Try.func61, Try.ntmps61
  go_wp2_with fail
  go_ret
  exact ⟨by rw [HF.out]; rfl, (by (repeat' (first | assumption | exact Below.refl _ _ | refine Below.alloc ?_ ?_ _ | refine Below.setCell ?_ ?_ _ | refine Below.drew ?_ | refine below_drewN ?_ _)) <;> (first | omega | (simp <;> omega)))⟩

set_option maxHeartbeats 1000000 in
theorem l1Dec_any (k : Nat) : ∀ (n : Int) (w : World), k ≤ 30 → 0 ≤ n → n < 10 ^ (k + 1) → n ≤ 9223372036854775807 →
    Calls Try.prog 61 #[.int .i64 n] w fun e w' => e = .returned (.string ⟨(Dm.digs (k + 1) n.toNat).toArray⟩) ∧ Below w.heap.size w w' := by
  induction k with
  | zero => intro n w _ h1 h2 h3; exact l1Dec_small 0 n w h1 (by simpa using h2)
  | succ k ih =>
    intro n w hk h1 h2 h3
    by_cases hn : n < 10
    · exact l1Dec_small _ n w h1 hn
    · have hcv := fun W b => conv_one W b (48 + n % 10) (by omega) (by omega)
      have h10 : n / 10 < 10 ^ (k + 1) := by rw [Int.pow_succ] at h2; omega
      obtain ⟨s, hs⟩ : ∃ s : ByteArray, s = ⟨(Dm.digs (k + 1) (n / 10).toNat).toArray⟩ := ⟨_, rfl⟩
      have IH : Hid (∀ w : World, Calls Try.prog 61 #[.int .i64 (n / 10)] w fun e w' => e = .returned (.string s) ∧ Below w.heap.size w w') := fun w => by rw [hs]; exact ih (n / 10) w (by omega) (by omega) h10 (by omega)
      have HF : Hid ((⟨(Dm.digs (k + 1 + 1) n.toNat).toArray⟩ : ByteArray) = s ++ ⟨#[UInt8.ofNat (48 + n % 10).toNat]⟩) := by
        unfold Hid; rw [hs, Dm.digs, if_neg (by omega), show (48 + n % 10).toNat = 48 + n.toNat % 10 from by omega, show (n / 10).toNat = n.toNat / 10 from by omega]; exact ByteArray.ext (by simp)
      have hsz : s.size ≤ 40 := by rw [hs]; have := Dm.digs_len (k + 1) (n / 10).toNat; simp only [ByteArray.size, List.size_toArray]; omega
      clear h2 ih h10 hs
      rw [HF.out]
      clear HF
      have hw1 : IntKind.i64.wrap (n.tdiv 10) = n / 10 := by rw [Int.tdiv_eq_ediv_of_nonneg h1, IntKind.wrap_i64]; omega
      have hw2 : n.tmod 10 = n % 10 := Int.tmod_eq_emod_of_nonneg h1
      have hw3 : IntKind.i64.wrap (48 + n % 10) = 48 + n % 10 := by rw [IntKind.wrap_i64]; omega
      have hw4 : IntKind.u8.wrap (48 + n % 10) = 48 + n % 10 := by rw [IntKind.wrap_u8]; omega
      go_enter Try.func61, Try.ntmps61
      go_wp2_with fail
      go_region_with (go_at_call 61; refine (IH.out _).mono ?_; rintro e w1 ⟨rfl, hb1⟩; obtain ⟨hc, hf⟩ := bsome hb1)
      all_goals
        go_wp2
        go_ret
        refine ⟨rfl, ?_⟩
        (repeat' (first | exact Below.refl _ _ | refine Below.alloc ?_ ?_ _ | refine Below.drew ?_ | refine Below.trans ?_ (hb1.mono ?_))) <;> (first | omega | (simp; done) | (have := hb1.size; simp at this; omega) | (simp; omega))
end Go.Proofs.Ytpgpkdeiapeoiaa
/- Contracts: the text of a decimal as the specification makes it. -/
namespace Go.Proofs.Ytpgpkdeiapeoiaa
open Go.RowKit
attribute [local go_sem] cell_alloc_is frozen_alloc_is

theorem tArr_size (l : List UInt8) : (⟨l.toArray⟩ : ByteArray).size = l.length := by show l.toArray.size = _; simp
theorem tArr_append (a b : List UInt8) : (⟨a.toArray⟩ : ByteArray) ++ ⟨b.toArray⟩ = ⟨(a ++ b).toArray⟩ := by
  have : ∀ x y : ByteArray, x.data.toList = y.data.toList → x = y := by intro x y h; cases x; cases y; simpa using h
  apply this; simp [ByteArray.data_append]
theorem tLen (s : ByteArray) : s.data.toList.length = s.size := by rw [Array.length_toList]; rfl
/-- so many noughts -/
abbrev noughts (a : Nat) : ByteArray := ⟨(List.replicate a (48 : UInt8)).toArray⟩
theorem noughts_add (a b : Nat) : noughts a ++ noughts b = noughts (a + b) := by rw [tArr_append, List.replicate_append_replicate]
theorem noughts_size (a : Nat) : (noughts a).size = a := by rw [tArr_size, List.length_replicate]

set_option maxHeartbeats 1000000 in
theorem l1Many_any (k : Nat) (w : World) (hk : k ≤ 100) :
    Calls Try.prog 62 #[.string ⟨#[48]⟩, .int .i64 k] w fun e w' => e = .returned (.string (noughts k)) ∧ w' = w := by
  go_enter Try.func62, Try.ntmps62
  go_wp2_with fail
  go_loop [0, 1, 5] (fun s n o => ∃ a b c : Nat, s = .string (noughts b) ∧ n = .int .i64 c ∧ o = .string (noughts a) ∧ a + b * c = k ∧ a ≤ 1000 ∧ b * (c + 1) ≤ 2000 ∧ c ≤ 100) (fun _ n _ => (intOf n).toNat)
  case atStart => exact ⟨0, 1, k, rfl, rfl, rfl, by omega, by omega, by omega, hk⟩
  case round =>
    obtain ⟨a, b, c, rfl, rfl, rfl, h1, h2, h3, h4⟩ := hrel
    have sa := noughts_size a
    have sb := noughts_size b
    by_cases hc : 0 < c
    · have hb : b ≤ 2000 := by
        have : b * 1 ≤ b * (c + 1) := Nat.mul_le_mul_left _ (by omega)
        omega
      have hbc : b * c ≤ k := by omega
      have hb6 : b * 1 ≤ b * c := Nat.mul_le_mul_left _ (by omega)
      have HAB : Hid (noughts a ++ noughts b = noughts (a + b)) := noughts_add a b
      have HBB : Hid (noughts b ++ noughts b = noughts (b + b)) := noughts_add b b
      have hc' : (0 : Int) < (c : Int) := by omega
      have hdm : c = 2 * (c / 2) + c % 2 := by omega
      have e1 : b * c = (b + b) * (c / 2) + b * (c % 2) := by
        conv => lhs; rw [hdm]
        rw [Nat.mul_add, ← Nat.mul_assoc, Nat.mul_comm b 2, Nat.two_mul]
      have e2 : (b + b) * (c / 2 + 1) ≤ 2000 := by
        have : (b + b) * (c / 2 + 1) = (b + b) * (c / 2) + (b + b) := by rw [Nat.mul_add, Nat.mul_one]
        have h5 : (b + b) * (c / 2) ≤ b * c := by omega
        have h6 : b * 1 ≤ b * c := Nat.mul_le_mul_left _ (by omega)
        omega
      have HE : Hid (b * c = (b + b) * (c / 2) + b * (c % 2)) := e1
      clear e1 hdm
      by_cases ho : c % 2 = 1
      · have ho' : ((c : Int) % 2 == 1) = true := by simp; omega
        go_wp2_with fail
        go_round
        case rel =>
          refine ⟨a + b, b + b, c / 2, by rw [HBB.out], by go_num, by rw [HAB.out], ?_, by omega, e2, by omega⟩
          have := HE.out; rw [ho, Nat.mul_one] at this; omega
        case measure => simp [intOf]; omega
      · have ho' : ((c : Int) % 2 == 1) = false := by simp; omega
        go_wp2_with fail
        go_round
        case rel =>
          refine ⟨a, b + b, c / 2, by rw [HBB.out], by go_num, rfl, ?_, h2, e2, by omega⟩
          have := HE.out; rw [show c % 2 = 0 by omega, Nat.mul_zero] at this; omega
        case measure => simp [intOf]; omega
    · have hc0 : c = 0 := by omega
      subst hc0
      have : a = k := by omega
      subst this
      go_wp2_with fail
      go_ret
      exact ⟨rfl, rfl⟩

set_option maxHeartbeats 2000000 in
theorem l1Text_pos (n : Nat) (x : Int) (w : World) (hn : n ≤ 99999999) (x1 : -8 ≤ x) (x2 : x ≤ 8) :
    Calls Try.prog 42 #[.agg #[.int .i64 n, .int .i64 x]] w fun e w' => e = .returned (.string ⟨(Tm.body n x).toArray⟩) ∧ Below w.heap.size w w' := by
  have hdig : Dm.digs 9 n = Tm.dstr n (Tm.cnt n) := Tm.digs_dstr 9 n
  have hcl := Tm.cnt_le n
  have L : ∀ w : World, Calls Try.prog 61 #[.int .i64 n] w fun e w' => e = .returned (.string ⟨(Tm.dstr n (Tm.cnt n)).toArray⟩) ∧ Below w.heap.size w w' := by
    intro w
    have := l1Dec_any 8 (n : Int) w (by omega) (by omega) (by omega) (by omega)
    rw [Int.toNat_natCast] at this
    rw [← hdig]; exact this
  clear hdig
  have hn0 : (0 : Int) ≤ (n : Int) := by omega
  by_cases h : 0 ≤ x
  · obtain ⟨k, rfl⟩ := Int.eq_ofNat_of_zero_le h
    have HF : Hid (Tm.body n k = Tm.dstr n (Tm.cnt n) ++ List.replicate k 48) := by unfold Hid; rw [Tm.body, if_pos h, Int.toNat_natCast]
    go_enter Try.func42, Try.ntmps42
    go_wp2_with fail
    refine (L _).mono ?_
    rintro e w1 ⟨rfl, hb1⟩
    obtain ⟨c0, c1, f0, f1⟩ := (Two.new w (n : Int) (k : Int) 30).below hb1 (by simp)
    have hB1 : Below w.heap.size w w1 := Below.trans (by (repeat' (first | assumption | exact Below.refl _ _ | refine Below.alloc ?_ ?_ _ | refine Below.setCell ?_ ?_ _ | refine Below.drew ?_ | refine below_drewN ?_ _)) <;> (first | omega | (simp <;> omega))) (hb1.mono (by simp))
    clear hb1
    have s1 := tArr_size (Tm.dstr n (Tm.cnt n))
    rw [Tm.dstr_len] at s1
    have s2 := noughts_size k
    have HA : Hid ((⟨(Tm.dstr n (Tm.cnt n)).toArray⟩ : ByteArray) ++ noughts k = ⟨(Tm.body n k).toArray⟩) := by unfold Hid; rw [HF.out, tArr_append]
    generalize (⟨(Tm.dstr n (Tm.cnt n)).toArray⟩ : ByteArray) = D at *
    go_wp2_with fail
    refine (l1Many_any k _ (by omega)).mono ?_
    rintro e w2 ⟨rfl, hw⟩
    subst w2
    generalize noughts k = Z at *
    go_wp2_with fail
    go_ret
    exact ⟨by rw [HA.out]; rfl, hB1⟩
  · obtain ⟨k, rfl⟩ : ∃ k : Nat, x = -(k : Int) := ⟨(-x).toNat, by omega⟩
    have HF : Hid (Tm.body n (-(k : Int)) = Tm.dsl n k (max (Tm.cnt n) (k + 1) - k) ++ 46 :: Tm.dstr n k) := by unfold Hid; rw [Tm.body, if_neg h, Int.neg_neg, Int.toNat_natCast]
    have hlt := Tm.lt_cnt n hn
    go_enter Try.func42, Try.ntmps42
    go_wp2_with fail
    refine (L _).mono ?_
    rintro e w1 ⟨rfl, hb1⟩
    obtain ⟨c0, c1, f0, f1⟩ := (Two.new w (n : Int) (-(k : Int)) 30).below hb1 (by simp)
    have hB1 : Below w.heap.size w w1 := Below.trans (by (repeat' (first | assumption | exact Below.refl _ _ | refine Below.alloc ?_ ?_ _ | refine Below.setCell ?_ ?_ _ | refine Below.drew ?_ | refine below_drewN ?_ _)) <;> (first | omega | (simp <;> omega))) (hb1.mono (by simp))
    clear hb1
    go_wp2_with fail
    go_loop [3] (fun s => ∃ c : Nat, s = .string ⟨(Tm.dstr n c).toArray⟩ ∧ c ≤ 30 ∧ n < 10 ^ c ∧ max c (k + 1) = max (Tm.cnt n) (k + 1)) (fun s => 40 - (match s with | .string b => b.size | _ => 0))
    case atStart => exact ⟨Tm.cnt n, rfl, by omega, hlt, rfl⟩
    case round =>
      obtain ⟨c, rfl, hc1, hc2, hc3⟩ := hrel
      have s1 := tArr_size (Tm.dstr n c)
      rw [Tm.dstr_len] at s1
      by_cases hck : c ≤ k
      · have HZ : Hid ((⟨#[48]⟩ : ByteArray) ++ ⟨(Tm.dstr n c).toArray⟩ = ⟨(Tm.dstr n (c + 1)).toArray⟩) := by
          unfold Hid
          rw [show (⟨#[48]⟩ : ByteArray) = ⟨[48].toArray⟩ from rfl, tArr_append]
          show _ = (⟨(Tm.dig n c :: Tm.dstr n c).toArray⟩ : ByteArray)
          rw [Tm.dig_none hc2]; rfl
        have HP : Hid (n < 10 ^ (c + 1)) := by unfold Hid; rw [Nat.pow_succ]; omega
        have hS := tArr_size (Tm.dstr n (c + 1))
        rw [Tm.dstr_len] at hS
        have HSS : Hid ((⟨(Tm.dstr n (c + 1)).toArray⟩ : ByteArray).size = c + 1) := hS
        clear hc2 hS
        have hck' : (c : Int) ≤ (k : Int) := by omega
        go_wp2_with fail
        go_round
        case rel => exact ⟨c + 1, by rw [HZ.out], by omega, HP.out, by omega⟩
        case measure => rw [HZ.out]; simp only [HSS.out, s1]; omega
      · have hck' : ¬ (c : Int) ≤ (k : Int) := by omega
        have hmc : max (Tm.cnt n) (k + 1) = c := by omega
        obtain ⟨j, hj⟩ : ∃ j : Nat, c = j + k := ⟨c - k, by omega⟩
        have q1 : (c : Int) + -(k : Int) = (j : Int) := by omega
        have q2 : (j : Int) ≤ (c : Int) := by omega
        have q3 : (0 : Int) ≤ (j : Int) := by omega
        have q4 : IntKind.i64.wrap ((c : Int) + -(k : Int)) = (j : Int) := by rw [q1, IntKind.wrap_i64]; omega
        have hD : (Tm.dstr n c) = Tm.dsl n k j ++ Tm.dstr n k := by rw [hj]; exact Tm.dstr_add n k j
        have X1 : Hid (((⟨(Tm.dstr n c).toArray⟩ : ByteArray).extract 0 j) = ⟨(Tm.dsl n k j).toArray⟩) := by
          unfold Hid
          apply ByteArray.ext
          apply Array.toList_inj.1
          rw [hD]; simp [ByteArray.data_extract]
          rw [List.take_left' (Tm.dsl_len n k j)]
        have X2 : Hid (((⟨(Tm.dstr n c).toArray⟩ : ByteArray).extract j c) = ⟨(Tm.dstr n k).toArray⟩) := by
          unfold Hid
          apply ByteArray.ext
          apply Array.toList_inj.1
          rw [hD]; simp [ByteArray.data_extract]
          rw [List.drop_left' (Tm.dsl_len n k j), List.take_of_length_le (by rw [Tm.dstr_len]; omega)]
        have z1 : ((⟨(Tm.dstr n c).toArray⟩ : ByteArray).extract 0 j).size = j := by rw [X1.out, tArr_size, Tm.dsl_len]
        have z2 : ((⟨(Tm.dstr n c).toArray⟩ : ByteArray).extract j c).size = k := by rw [X2.out, tArr_size, Tm.dstr_len]
        have HJ : Hid (max (Tm.cnt n) (k + 1) - k = j) := by unfold Hid; omega
        have HC : Hid (c = j + k) := hj
        clear hD hj hc3 hmc q1 hc2 hlt
        go_wp2_with fail
        go_quiet (fail)
        go_wp2_with fail
        go_ret
        refine ⟨?_, below_drewN hB1 _⟩
        show Ending.returned (Value.string (((⟨(Tm.dstr n c).toArray⟩ : ByteArray).extract 0 j) ++ ⟨#[46]⟩ ++ ((⟨(Tm.dstr n c).toArray⟩ : ByteArray).extract j c))) = _
        rw [X1.out, X2.out, show (⟨#[46]⟩ : ByteArray) = ⟨[46].toArray⟩ from rfl, tArr_append, tArr_append, HF.out, HJ.out, List.append_assoc]; rfl

set_option maxHeartbeats 1000000 in
theorem l1Text_any (m x : Int) (w : World) (m1 : -99999999 ≤ m) (m2 : m ≤ 99999999) (x1 : -8 ≤ x) (x2 : x ≤ 8) :
    Calls Try.prog 42 #[.agg #[.int .i64 m, .int .i64 x]] w fun e w' => e = .returned (.string ⟨(Tm.text m x).toArray⟩) ∧ Below w.heap.size w w' := by
  by_cases h : m < 0
  · obtain ⟨n, hn⟩ : ∃ n : Nat, n = m.natAbs := ⟨_, rfl⟩
    have hmn : -m = (n : Int) := by omega
    have HT : Hid (Tm.text m x = [45] ++ Tm.body n x) := by unfold Hid; rw [Tm.text, if_pos h, hn]
    have P : ∀ w : World, Calls Try.prog 42 #[.agg #[.int .i64 (-m), .int .i64 x]] w fun e w' => e = .returned (.string ⟨(Tm.body n x).toArray⟩) ∧ Below w.heap.size w w' := by
      intro w; rw [hmn]; exact l1Text_pos n x w (by omega) x1 x2
    clear hmn hn
    have hbl := Tm.body_len n x x1 x2
    have hsz := tArr_size (Tm.body n x)
    go_enter Try.func42, Try.ntmps42
    go_wp2_with fail
    refine (l1Neg_any _ _ _ (by omega) (by omega)).mono ?_
    rintro e w1 ⟨rfl, hb1⟩
    have hB1 : Below w.heap.size w w1 := Below.trans (by (repeat' (first | assumption | exact Below.refl _ _ | refine Below.alloc ?_ ?_ _ | refine Below.setCell ?_ ?_ _ | refine Below.drew ?_ | refine below_drewN ?_ _)) <;> (first | omega | (simp <;> omega))) (hb1.mono (by simp))
    clear hb1
    go_wp2_with fail
    refine (P _).mono ?_
    rintro e w2 ⟨rfl, hb2⟩
    have hB2 : Below w.heap.size w w2 := hB1.trans (hb2.mono hB1.size)
    have HA : Hid ((⟨#[45]⟩ : ByteArray) ++ ⟨(Tm.body n x).toArray⟩ = ⟨(Tm.text m x).toArray⟩) := by
      unfold Hid; rw [show (⟨#[45]⟩ : ByteArray) = ⟨[45].toArray⟩ from rfl, tArr_append, HT.out]
    generalize (⟨(Tm.body n x).toArray⟩ : ByteArray) = D at *
    go_wp2_with fail
    go_ret
    exact ⟨by rw [← HA.out]; rfl, hB2⟩
  · obtain ⟨n, rfl⟩ := Int.eq_ofNat_of_zero_le (show 0 ≤ m by omega)
    have e : Tm.text (n : Int) x = Tm.body n x := by rw [Tm.text, if_neg h]; rfl
    rw [e]
    exact l1Text_pos n x w (by omega) x1 x2

/-- the text of a decimal; empty, if it is not in its form -/
def textOf (m x : Int) : List UInt8 := if Dm.ok m x = true then Tm.text m x else []
end Go.Proofs.Ytpgpkdeiapeoiaa
