/- My own texts, joined: Dm Dm4 Tm DecA DecB DecC DecD DecE DecF Held DecG DecL TxtA. -/
import Derived.Test.YtalncebnahlmdaaRows
import Derived.WalkKit
import Derived.WalkSpells
import Derived.WalkLawsBesides
import Derived.Deep.LoopGhost
import Derived.Deep.QuietTactic
import Derived.BigQuiet
import Derived.Deep.RegionHeld3
import Derived.Deep.DeepCutAuto
import Derived.OpenShut
import Derived.Laws.IdiomStrings
/- Plain mathematics of decimals: no program in it. -/
namespace Go.Proofs.Ytalncebnahlmdaa.Dm
theorem tm (m : Int) : 10 * m.tdiv 10 + m.tmod 10 = m := Int.mul_tdiv_add_tmod m 10
theorem tmb (m : Int) : -10 < m.tmod 10 ∧ m.tmod 10 < 10 ∧ (0 ≤ m → 0 ≤ m.tmod 10) ∧ (m ≤ 0 → m.tmod 10 ≤ 0) := by
  refine ⟨?_, ?_, fun h => Int.tmod_nonneg _ h, fun h => ?_⟩
  · by_cases h : 0 ≤ m
    · have := Int.tmod_nonneg 10 h; omega
    · have h1 : (-m).tmod 10 < 10 := Int.tmod_lt_of_pos _ (by omega)
      rw [Int.neg_tmod] at h1; omega
  · exact Int.tmod_lt_of_pos _ (by omega)
  · have h1 : 0 ≤ (-m).tmod 10 := Int.tmod_nonneg _ (by omega)
    rw [Int.neg_tmod] at h1; omega
def strip : Nat → Int → Int → Int × Int
  | 0, m, e => (m, e)
  | k + 1, m, e => if m.tmod 10 = 0 then strip k (m.tdiv 10) (e + 1) else (m, e)

theorem tdiv_lt (m : Int) (h : m ≠ 0) : (m.tdiv 10).natAbs < m.natAbs := by
  have := tm m; have := tmb m; omega
theorem strip_at (k : Nat) (m e : Int) (h : m.tmod 10 ≠ 0) : strip k m e = (m, e) := by
  cases k with
  | zero => rfl
  | succ k => rw [strip, if_neg h]

/-- in its form -/
def ok (m e : Int) : Bool := if m = 0 then e == 0 else decide (-99999999 ≤ m) && decide (m ≤ 99999999) && decide (-8 ≤ e) && decide (e ≤ 8) && (m.tmod 10 != 0)
theorem ok_iff (m e : Int) : ok m e = true ↔ (m = 0 ∧ e = 0) ∨ (m ≠ 0 ∧ -99999999 ≤ m ∧ m ≤ 99999999 ∧ -8 ≤ e ∧ e ≤ 8 ∧ m.tmod 10 ≠ 0) := by
  unfold ok
  by_cases h : m = 0 <;> simp [h, and_assoc]
/-- the number in its form, if it has room -/
def norm (m e : Int) : Int × Int × Bool :=
  if m = 0 then (0, 0, true) else if ok (strip 20 m e).1 (strip 20 m e).2 then ((strip 20 m e).1, (strip 20 m e).2, true) else (0, 0, false)
/-- what a stripping loop has come to behind j rounds -/
def Strip (m e : Int) (j : Nat) (m' e' : Int) : Prop :=
  m' ≠ 0 ∧ m'.natAbs * 10 ^ j ≤ 1000000000000000000 ∧ e' = e + j ∧ strip (20 - j) m' e' = strip 20 m e
theorem Strip.start (m e : Int) (h0 : m ≠ 0) (h1 : -1000000000000000000 ≤ m) (h2 : m ≤ 1000000000000000000) : Strip m e 0 m e :=
  ⟨h0, by omega, by omega, rfl⟩
theorem pow10_le {a j : Nat} (ha : 1 ≤ a) (h : a * 10 ^ j ≤ 1000000000000000000) : j ≤ 18 := by
  by_cases hj : j ≤ 18
  · exact hj
  · have h1 : 10 ^ 19 ≤ 10 ^ j := Nat.pow_le_pow_right (by omega) (by omega)
    have h2 : 1 * 10 ^ j ≤ a * 10 ^ j := Nat.mul_le_mul_right _ ha
    omega
theorem Strip.bound {m e m' e' : Int} {j : Nat} (h : Strip m e j m' e') : j ≤ 18 ∧ -1000000000000000000 ≤ m' ∧ m' ≤ 1000000000000000000 := by
  obtain ⟨h0, h1, h2, h3⟩ := h
  have hj := pow10_le (a := m'.natAbs) (by omega) h1
  have : m'.natAbs * 1 ≤ m'.natAbs * 10 ^ j := Nat.mul_le_mul_left _ (Nat.one_le_pow j 10 (by omega))
  omega
theorem Strip.step {m e m' e' : Int} {j : Nat} (h : Strip m e j m' e') (hz : m'.tmod 10 = 0) : Strip m e (j + 1) (m'.tdiv 10) (e' + 1) := by
  have hb := h.bound
  obtain ⟨h0, h1, h2, h3⟩ := h
  have ht := tm m'
  rw [hz] at ht
  refine ⟨by omega, ?_, by omega, ?_⟩
  · have : m'.natAbs = 10 * (m'.tdiv 10).natAbs := by omega
    rw [this] at h1
    rw [Nat.pow_succ, Nat.mul_comm (10 ^ j) 10, ← Nat.mul_assoc, Nat.mul_comm _ 10]
    exact h1
  · rw [← h3, show 20 - j = (20 - (j + 1)) + 1 from by omega, strip, if_pos hz]
theorem Strip.stop {m e m' e' : Int} {j : Nat} (h : Strip m e j m' e') (hz : m'.tmod 10 ≠ 0) : strip 20 m e = (m', e') := by
  obtain ⟨h0, h1, h2, h3⟩ := h
  rw [← h3, strip_at _ _ _ hz]
theorem Strip.norm_ok {m e m' e' : Int} {j : Nat} (h : Strip m e j m' e') (hm : m ≠ 0) (hz : m'.tmod 10 ≠ 0) (ho : ok m' e' = true) : norm m e = (m', e', true) := by
  rw [norm, if_neg hm, h.stop hz]; simp [ho]
theorem Strip.norm_no {m e m' e' : Int} {j : Nat} (h : Strip m e j m' e') (hm : m ≠ 0) (hz : m'.tmod 10 ≠ 0) (ho : ok m' e' = false) : norm m e = (0, 0, false) := by
  rw [norm, if_neg hm, h.stop hz]; simp [ho]
/-- DecNew -/
def new (m e : Int) : Int × Int × Bool :=
  if (-100000000000000000 ≤ m ∧ m ≤ 100000000000000000) ∧ (-32 ≤ e ∧ e ≤ 32) then norm m e else (0, 0, false)
/-- DecMul -/
def mul (m x n y : Int) : Int × Int × Bool := if ok m x = true ∧ ok n y = true then norm (m * n) (x + y) else (0, 0, false)
theorem ok_bd {m e : Int} (h : ok m e = true) : -99999999 ≤ m ∧ m ≤ 99999999 ∧ -8 ≤ e ∧ e ≤ 8 := by
  rw [ok_iff] at h; omega
theorem mul_bd {m n : Int} (a : Int) (b : Int) (ha : 0 ≤ a) (h1 : -a ≤ m) (h2 : m ≤ a) (h3 : -b ≤ n) (h4 : n ≤ b) : -(a * b) ≤ m * n ∧ m * n ≤ a * b := by
  have e1 : m.natAbs * n.natAbs ≤ a.toNat * b.toNat := Nat.mul_le_mul (by omega) (by omega)
  have e2 : (m * n).natAbs = m.natAbs * n.natAbs := Int.natAbs_mul m n
  have e3 : ((a.toNat * b.toNat : Nat) : Int) = a * b := by
    rw [Int.natCast_mul, Int.toNat_of_nonneg ha, Int.toNat_of_nonneg (by omega)]
  omega
/-- a whole number times a power of ten -/
def p10 (k : Int) : Int := (10 : Int) ^ k.toNat
theorem p10_succ (k : Int) (h : 0 ≤ k) : p10 (k + 1) = p10 k * 10 := by
  unfold p10; rw [show (k + 1).toNat = k.toNat + 1 from by omega, Int.pow_succ]
theorem p10_pos (k : Int) : 1 ≤ p10 k := by
  have : (0 : Int) < 10 ^ k.toNat := Int.pow_pos (by omega)
  unfold p10; omega
theorem p10_mono {j k : Int} (h : j ≤ k) : p10 j ≤ p10 k := by
  unfold p10
  have : (10 : Nat) ^ j.toNat ≤ 10 ^ k.toNat := Nat.pow_le_pow_right (by omega) (by omega)
  exact_mod_cast this
/-- manAt -/
def manAt (m x p : Int) : Int × Bool := if m = 0 then (0, true) else if 8 < x - p then (0, false) else (m * p10 (x - p), true)
/-- l1Up behind so many rounds: nothing, if it went too far on the way -/
def up : Nat → Int → Int × Bool
  | 0, n => (n, true)
  | k + 1, n => if 1000000000 < n * 10 ∨ n * 10 < -1000000000 then (0, false) else up k (n * 10)
/-- DecAdd of two in their form -/
def add1 (m x n y : Int) : Int × Int × Bool :=
  if (manAt m x (min x y)).2 = true ∧ (manAt n y (min x y)).2 = true then new ((manAt m x (min x y)).1 + (manAt n y (min x y)).1) (min x y) else (0, 0, false)
def add (m x n y : Int) : Int × Int × Bool := if ok m x = true ∧ ok n y = true then add1 m x n y else (0, 0, false)
theorem strip_mul (j k : Nat) : ∀ (m e : Int), m.tmod 10 ≠ 0 → strip (k + 1 + j) (m * 10 ^ k) e = (m, e + k) := by
  induction k with
  | zero => intro m e h; rw [strip_at _ _ _ (by simpa using h)]; simp
  | succ k ih =>
    intro m e h
    rw [show k + 1 + 1 + j = (k + 1 + j) + 1 from by omega, strip, Int.pow_succ, ← Int.mul_assoc]
    rw [if_pos (Int.mul_tmod_left _ _), Int.mul_tdiv_cancel _ (by omega), ih m (e + 1) h]
    simp; omega
theorem norm_self {m e : Int} (h : ok m e = true) : norm m e = (m, e, true) := by
  by_cases h0 : m = 0
  · subst h0; rw [ok_iff] at h; rw [norm, if_pos rfl]; simp at h; simp [h]
  · have h' := h
    rw [ok_iff] at h'
    rw [norm, if_neg h0, strip_at _ _ _ (by omega)]
    simp [h]
theorem norm_pow {m e : Int} (k : Nat) (hk : k ≤ 19) (h0 : m ≠ 0) (h : ok m (e + k) = true) : norm (m * 10 ^ k) e = (m, e + k, true) := by
  have h' := h
  rw [ok_iff] at h'
  have hp : (10 : Int) ^ k ≠ 0 := Int.pow_ne_zero (by omega)
  rw [norm, if_neg (Int.mul_ne_zero h0 hp)]
  have hs : strip 20 (m * 10 ^ k) e = (m, e + k) := by
    have e1 := strip_mul (19 - k) k m e (by omega)
    rw [show k + 1 + (19 - k) = 20 from by omega] at e1
    exact e1
  rw [hs]; simp [h]
theorem p10_tmod (k : Int) (h : 1 ≤ k) (m : Int) : (m * p10 k).tmod 10 = 0 := by
  have e := p10_succ (k - 1) (by omega)
  rw [show k - 1 + 1 = k from by omega] at e
  rw [e, ← Int.mul_assoc]; exact Int.mul_tmod_left _ _
theorem ok_ne {m x : Int} (h : ok m x = true) (h0 : m ≠ 0) : m.tmod 10 ≠ 0 := by rw [ok_iff] at h; omega
theorem manAt_bd {m x : Int} (p : Int) (h : ok m x = true) : -9999999900000000 ≤ (manAt m x p).1 ∧ (manAt m x p).1 ≤ 9999999900000000 := by
  have b := ok_bd h
  unfold manAt
  by_cases h0 : m = 0
  · rw [if_pos h0]; exact ⟨by decide, by decide⟩
  · rw [if_neg h0]
    by_cases h8 : 8 < x - p
    · rw [if_pos h8]; exact ⟨by decide, by decide⟩
    · rw [if_neg h8]
      have hb := mul_bd (m := m) (n := p10 (x - p)) 99999999 100000000 (by omega) (by omega) (by omega) (by have := p10_pos (x - p); omega) (p10_mono (k := 8) (by omega))
      simp only; omega
theorem ok_neg (n y : Int) : ok (-n) y = ok n y := by
  rw [Bool.eq_iff_iff, ok_iff, ok_iff, Int.neg_tmod]; omega
/-- DecSub -/
def sub (m x n y : Int) : Int × Int × Bool := if ok m x = true ∧ ok n y = true then add1 m x (-n) y else (0, 0, false)
end Go.Proofs.Ytalncebnahlmdaa.Dm
/- Plain mathematics of figures and of the order of decimals: no program in it. -/
namespace Go.Proofs.Ytalncebnahlmdaa.Dm
/-- the figures of a whole number, so many at most -/
def digs : Nat → Nat → List UInt8
  | 0, _ => []
  | k + 1, n => if n < 10 then [UInt8.ofNat (48 + n)] else digs k (n / 10) ++ [UInt8.ofNat (48 + n % 10)]

theorem digs_len (k : Nat) : ∀ n, (digs k n).length ≤ k := by
  induction k with
  | zero => intro n; exact Nat.le_refl _
  | succ k ih =>
    intro n
    rw [digs]
    by_cases h : n < 10
    · rw [if_pos h]; simp
    · rw [if_neg h]; have := ih (n / 10); simp; omega

theorem digs_log (k : Nat) : ∀ n, 1 ≤ n → n < 10 ^ k → 1 ≤ (digs k n).length ∧ 10 ^ ((digs k n).length - 1) ≤ n ∧ n < 10 ^ (digs k n).length := by
  induction k with
  | zero => intro n h1 h2; simp at h2; omega
  | succ k ih =>
    intro n h1 h2
    rw [digs]
    by_cases h : n < 10
    · rw [if_pos h]; simp; omega
    · rw [if_neg h]
      have e := ih (n / 10) (by omega) (by rw [Nat.pow_succ] at h2; omega)
      obtain ⟨e1, e2, e3⟩ := e
      simp only [List.length_append, List.length_cons, List.length_nil, Nat.zero_add, Nat.add_sub_cancel]
      refine ⟨by omega, ?_, ?_⟩
      · have : 10 ^ (digs k (n / 10)).length = 10 ^ ((digs k (n / 10)).length - 1) * 10 := by rw [← Nat.pow_succ]; congr 1; omega
        omega
      · rw [Nat.pow_succ]; omega
def sgn (v : Int) : Int := if v < 0 then -1 else if 0 < v then 1 else 0
theorem sgn_neg {v : Int} (h : v < 0) : sgn v = -1 := by rw [sgn, if_pos h]
theorem sgn_pos {v : Int} (h : 0 < v) : sgn v = 1 := by rw [sgn, if_neg (by omega), if_pos h]
theorem sgn_zero : sgn 0 = 0 := rfl
theorem sgn_mul {v c : Int} (hc : 1 ≤ c) : sgn (v * c) = sgn v := by
  rcases Int.lt_trichotomy v 0 with h | h | h
  · rw [sgn_neg h, sgn_neg (Int.mul_neg_of_neg_of_pos h (by omega))]
  · subst h; simp [sgn]
  · rw [sgn_pos h, sgn_pos (Int.mul_pos h (by omega))]
theorem p10_add {a b : Int} (ha : 0 ≤ a) (hb : 0 ≤ b) : p10 (a + b) = p10 a * p10 b := by
  unfold p10; rw [show (a + b).toNat = a.toNat + b.toNat from by omega, Int.pow_add]
/-- what a decimal is worth at the last place -/
def val (m x : Int) : Int := m * p10 (x + 8)
/-- DecCmp -/
def cmp (m x n y : Int) : Int := if ok m x = true ∧ ok n y = true then sgn (val m x - val n y) else 0
theorem val_at {m x p : Int} (hp : p ≤ x) (hp8 : -8 ≤ p) : val m x = m * p10 (x - p) * p10 (p + 8) := by
  rw [val, Int.mul_assoc, ← p10_add (by omega) (by omega)]; congr 2; omega
theorem manAt_val {m x p : Int} (hp : p ≤ x) (hp8 : -8 ≤ p) (h : (manAt m x p).2 = true) : (manAt m x p).1 * p10 (p + 8) = val m x := by
  rw [val_at hp hp8]
  unfold manAt at h ⊢
  by_cases h0 : m = 0
  · rw [if_pos h0]; subst h0; simp
  · rw [if_neg h0] at h ⊢
    by_cases h8 : 8 < x - p
    · rw [if_pos h8] at h; simp at h
    · rw [if_neg h8]
theorem cmp_near {m x n y : Int} (hm : ok m x = true) (hn : ok n y = true) (h1 : (manAt m x (min x y)).2 = true) (h2 : (manAt n y (min x y)).2 = true) :
    cmp m x n y = sgn ((manAt m x (min x y)).1 - (manAt n y (min x y)).1) := by
  have bm := ok_bd hm
  have bn := ok_bd hn
  rw [cmp, if_pos ⟨hm, hn⟩, ← manAt_val (p := min x y) (by omega) (by omega) h1, ← manAt_val (p := min x y) (by omega) (by omega) h2, ← Int.sub_mul, sgn_mul (p10_pos _)]
theorem far_sgn {m n c : Int} (hm : m ≠ 0) (h1 : -99999999 ≤ n) (h2 : n ≤ 99999999) (hc : 1000000000 ≤ c) : sgn (m * c - n) = sgn m := by
  rcases Int.lt_or_gt_of_ne hm with h | h
  · have : 1 * c ≤ (-m) * c := Int.mul_le_mul_of_nonneg_right (by omega) (by omega)
    have e : (-m) * c = -(m * c) := Int.neg_mul _ _
    rw [sgn_neg h, sgn_neg (by omega)]
  · have : 1 * c ≤ m * c := Int.mul_le_mul_of_nonneg_right (by omega) (by omega)
    rw [sgn_pos h, sgn_pos (by omega)]
theorem manAt_far {m x p : Int} (h : (manAt m x p).2 = false) : m ≠ 0 ∧ 8 < x - p := by
  unfold manAt at h
  by_cases h0 : m = 0
  · rw [if_pos h0] at h; simp at h
  · refine ⟨h0, ?_⟩
    rw [if_neg h0] at h
    by_cases h8 : 8 < x - p
    · exact h8
    · rw [if_neg h8] at h; simp at h
theorem p10_nine {k : Int} (h : 8 < k) : 1000000000 ≤ p10 k := by
  have := p10_mono (j := 9) (k := k) (by omega)
  rw [show p10 9 = 1000000000 from rfl] at this; exact this
theorem cmp_far1 {m x n y : Int} (hm : ok m x = true) (hn : ok n y = true) (h1 : (manAt m x (min x y)).2 = false) : cmp m x n y = sgn m := by
  have bm := ok_bd hm
  have bn := ok_bd hn
  obtain ⟨h0, h8⟩ := manAt_far h1
  have e : min x y = y := by omega
  rw [e] at h8
  rw [cmp, if_pos ⟨hm, hn⟩, val_at (m := m) (p := y) (by omega) (by omega), val, ← Int.sub_mul, sgn_mul (p10_pos _)]
  exact far_sgn h0 (by omega) (by omega) (p10_nine h8)
theorem sgn_sub (a b : Int) : sgn (a - b) = -sgn (b - a) := by
  rcases Int.lt_trichotomy a b with h | h | h
  · rw [sgn_neg (by omega), sgn_pos (by omega)]
  · subst h; simp [sgn]
  · rw [sgn_pos (by omega), sgn_neg (by omega)]; rfl
theorem cmp_swap (m x n y : Int) : cmp m x n y = -cmp n y m x := by
  unfold cmp
  by_cases h : ok m x = true ∧ ok n y = true
  · rw [if_pos h, if_pos ⟨h.2, h.1⟩, sgn_sub]
  · rw [if_neg h, if_neg (fun k => h ⟨k.2, k.1⟩)]; rfl
theorem sgn_neg_eq (a : Int) : sgn (-a) = -sgn a := by
  have := sgn_sub 0 a
  simpa using this
theorem cmp_far2 {m x n y : Int} (hm : ok m x = true) (hn : ok n y = true) (h2 : (manAt n y (min x y)).2 = false) : cmp m x n y = sgn (0 - n) := by
  rw [cmp_swap, cmp_far1 hn hm (by rw [Int.min_comm]; exact h2), show 0 - n = -n from by omega, sgn_neg_eq]
theorem sgn_cases (v : Int) : (v < 0 ∧ sgn v = -1) ∨ (v = 0 ∧ sgn v = 0) ∨ (0 < v ∧ sgn v = 1) := by
  rcases Int.lt_trichotomy v 0 with h | h | h
  · exact .inl ⟨h, sgn_neg h⟩
  · exact .inr (.inl ⟨h, by subst h; rfl⟩)
  · exact .inr (.inr ⟨h, sgn_pos h⟩)
end Go.Proofs.Ytalncebnahlmdaa.Dm
/- Plain mathematics: the text of a decimal. -/
namespace Go.Proofs.Ytalncebnahlmdaa.Tm
def dig (n j : Nat) : UInt8 := UInt8.ofNat (48 + n / 10 ^ j % 10)
/-- the last c figures of a whole number, the greatest first -/
def dstr (n : Nat) : Nat → List UInt8
  | 0 => []
  | c + 1 => dig n c :: dstr n c
/-- a figures, those ahead of the last b -/
def dsl (n b : Nat) : Nat → List UInt8
  | 0 => []
  | a + 1 => dig n (a + b) :: dsl n b a
theorem dstr_len (n c : Nat) : (dstr n c).length = c := by induction c with
  | zero => rfl
  | succ c ih => simp [dstr, ih]
theorem dsl_len (n b a : Nat) : (dsl n b a).length = a := by induction a with
  | zero => rfl
  | succ a ih => simp [dsl, ih]
theorem dstr_add (n b a : Nat) : dstr n (a + b) = dsl n b a ++ dstr n b := by induction a with
  | zero => simp [dsl]
  | succ a ih => rw [Nat.succ_add]; show dig n (a + b) :: dstr n (a + b) = _; rw [ih]; rfl
theorem dig_succ (n c : Nat) : dig n (c + 1) = dig (n / 10) c := by unfold dig; rw [Nat.pow_succ, Nat.mul_comm, ← Nat.div_div_eq_div_mul]
theorem dstr_snoc (n c : Nat) : dstr n (c + 1) = dstr (n / 10) c ++ [dig n 0] := by
  induction c with
  | zero => rfl
  | succ c ih => show dig n (c + 1) :: dstr n (c + 1) = dig (n / 10) c :: dstr (n / 10) c ++ [dig n 0]; rw [ih, dig_succ]; rfl
def nd : Nat → Nat → Nat
  | 0, _ => 0
  | f + 1, n => if n = 0 then 0 else 1 + nd f (n / 10)
theorem nd_zero (f : Nat) : nd f 0 = 0 := by cases f <;> simp [nd]
theorem nd_succ (f n : Nat) (h : n ≠ 0) : nd (f + 1) n = 1 + nd f (n / 10) := by simp [nd, h]
theorem digs_nd (k : Nat) : ∀ n, (Dm.digs (k + 1) n).length = 1 + nd k (n / 10) := by
  induction k with
  | zero => intro n; rw [Dm.digs]; split <;> simp [Dm.digs, nd]
  | succ k ih =>
    intro n
    rw [Dm.digs]
    by_cases h : n < 10
    · rw [if_pos h, show n / 10 = 0 by omega, nd_zero]; rfl
    · rw [if_neg h, List.length_append, List.length_singleton, ih, nd_succ _ _ (by omega)]; omega
def cnt (n : Nat) : Nat := (Dm.digs 9 n).length
theorem cnt_pos (n : Nat) : 1 ≤ cnt n := by unfold cnt; rw [digs_nd]; omega
theorem cnt_le (n : Nat) : cnt n ≤ 9 := Dm.digs_len 9 n
theorem lt_cnt (n : Nat) (h : n ≤ 99999999) : n < 10 ^ cnt n := by
  by_cases h0 : n = 0
  · subst h0; exact Nat.pow_pos (by omega)
  · exact (Dm.digs_log 9 n (by omega) (by omega)).2.2
/-- the figure at a place -/
def figAt (n : Nat) (x p : Int) : Int := if p < x then 48 else 48 + ((n / 10 ^ (p - x).toNat % 10 : Nat) : Int)
theorem figAt_bd (n : Nat) (x p : Int) : 48 ≤ figAt n x p ∧ figAt n x p ≤ 57 := by
  unfold figAt; split
  · omega
  · have := Nat.mod_lt (n / 10 ^ (p - x).toNat) (show 10 > 0 by omega); omega
/-- places and their figures, downward from p -/
def fl (n : Nat) (x p : Int) : Nat → List (Int × Int)
  | 0 => []
  | c + 1 => (p, figAt n x p) :: fl n x (p - 1) c
theorem fl_add (n : Nat) (x : Int) (b : Nat) (a : Nat) : ∀ p : Int, fl n x p (a + b) = fl n x p a ++ fl n x (p - a) b := by
  induction a with
  | zero => intro p; simp [fl]
  | succ a ih => intro p; rw [Nat.succ_add]; show (p, figAt n x p) :: fl n x (p - 1) (a + b) = _; rw [ih, show p - 1 - (a : Int) = p - ((a + 1 : Nat) : Int) by omega]; rfl
def one (y : Int × Int) : List UInt8 := (if y.1 = -1 then [46] else []) ++ [UInt8.ofNat y.2.toNat]
def txt (l : List (Int × Int)) : List UInt8 := l.flatMap one
theorem one_fig (n : Nat) (x p : Int) (h : p ≠ -1) (hx : x ≤ p) : one (p, figAt n x p) = [dig n (p - x).toNat] := by
  unfold one figAt dig
  rw [if_neg h, if_neg (by omega)]
  simp only [List.nil_append]
  congr 2
theorem one_nought (n : Nat) (x p : Int) (h : p ≠ -1) (hx : p < x) : one (p, figAt n x p) = [48] := by
  unfold one figAt; rw [if_neg h, if_pos hx]; rfl
theorem one_point (n : Nat) (x : Int) (hx : x ≤ -1) : one (-1, figAt n x (-1)) = [46, dig n (-1 - x).toNat] := by
  unfold one figAt dig
  rw [if_pos rfl, if_neg (by omega)]
  simp only [List.cons_append, List.nil_append]
  congr 3
theorem txt_cons (y : Int × Int) (l : List (Int × Int)) : txt (y :: l) = one y ++ txt l := by simp [txt]
/-- figures ahead of the point -/
theorem txt_ahead (n : Nat) (x : Int) (b : Nat) (a : Nat) : ∀ p : Int, p = (a : Int) + b + x - 1 → 0 ≤ (b : Int) + x → txt (fl n x p a) = dsl n b a := by
  induction a with
  | zero => intro p _ _; rfl
  | succ a ih =>
    intro p hp hb
    show txt ((p, figAt n x p) :: fl n x (p - 1) a) = dig n (a + b) :: dsl n b a
    rw [txt_cons, one_fig n x p (by omega) (by omega), ih (p - 1) (by omega) hb, show (p - x).toNat = a + b by omega]; rfl
theorem txt_noughts (n : Nat) (x : Int) (a : Nat) : ∀ p : Int, p = (a : Int) - 1 → p < x → txt (fl n x p a) = List.replicate a 48 := by
  induction a with
  | zero => intro p _ _; rfl
  | succ a ih =>
    intro p hp hx
    show txt ((p, figAt n x p) :: fl n x (p - 1) a) = _
    rw [txt_cons, one_nought n x p (by omega) hx, ih (p - 1) (by omega) (by omega), List.replicate_succ]; rfl
/-- figures behind the point, the first aside -/
theorem txt_behind (n : Nat) (x : Int) (a : Nat) : ∀ p : Int, p = (a : Int) + x - 1 → p < -1 → txt (fl n x p a) = dstr n a := by
  induction a with
  | zero => intro p _ _; rfl
  | succ a ih =>
    intro p hp hx
    show txt ((p, figAt n x p) :: fl n x (p - 1) a) = dig n a :: dstr n a
    rw [txt_cons, one_fig n x p (by omega) (by omega), ih (p - 1) (by omega) (by omega), show (p - x).toNat = a by omega]; rfl
/-- the text of a number that is not below 0 -/
def body (n : Nat) (x : Int) : List UInt8 :=
  if 0 ≤ x then dstr n (cnt n) ++ List.replicate x.toNat 48
  else dsl n (-x).toNat (max (cnt n) ((-x).toNat + 1) - (-x).toNat) ++ 46 :: dstr n (-x).toNat
def hi (n : Nat) (x : Int) : Int := max (x + cnt n - 1) 0
def lo (x : Int) : Int := min x 0
theorem txt_body (n : Nat) (x : Int) : txt (fl n x (hi n x) (hi n x - lo x + 1).toNat) = body n x := by
  have hc := cnt_pos n
  unfold body
  by_cases h : 0 ≤ x
  · rw [if_pos h]
    have e : (hi n x - lo x + 1).toNat = cnt n + x.toNat := by unfold hi lo; omega
    rw [e, fl_add]
    have e1 : txt (fl n x (hi n x) (cnt n)) = dsl n 0 (cnt n) := txt_ahead n x 0 (cnt n) _ (by unfold hi; omega) (by omega)
    have e2 : txt (fl n x (hi n x - (cnt n : Int)) x.toNat) = List.replicate x.toNat 48 := txt_noughts n x x.toNat _ (by unfold hi; omega) (by unfold hi; omega)
    have e3 := dstr_add n 0 (cnt n)
    simp only [Nat.add_zero, dstr, List.append_nil] at e3
    unfold txt at *
    rw [List.flatMap_append, e1, e2, ← e3]
  · rw [if_neg h]
    obtain ⟨k, hk⟩ : ∃ k : Nat, x = -((k : Int) + 1) := ⟨(-x - 1).toNat, by omega⟩
    have ek : (-x).toNat = k + 1 := by omega
    rw [ek]
    have e : (hi n x - lo x + 1).toNat = (max (cnt n) (k + 1 + 1) - (k + 1)) + (k + 1) := by unfold hi lo; omega
    rw [e, fl_add]
    have e1 : txt (fl n x (hi n x) (max (cnt n) (k + 1 + 1) - (k + 1))) = dsl n (k + 1) (max (cnt n) (k + 1 + 1) - (k + 1)) := txt_ahead n x (k + 1) _ _ (by unfold hi; omega) (by omega)
    have e2 : hi n x - ((max (cnt n) (k + 1 + 1) - (k + 1) : Nat) : Int) = -1 := by unfold hi; omega
    have e3 : txt (fl n x (-1) (k + 1)) = 46 :: dstr n (k + 1) := by
      show txt ((-1, figAt n x (-1)) :: fl n x (-1 - 1) k) = _
      rw [txt_cons, one_point n x (by omega), txt_behind n x k _ (by omega) (by omega), show (-1 - x).toNat = k by omega]; rfl
    unfold txt at *
    rw [List.flatMap_append, e1, e2, e3]
def text (m x : Int) : List UInt8 := (if m < 0 then [45] else []) ++ body m.natAbs x
theorem body_len (n : Nat) (x : Int) (h1 : -8 ≤ x) (h2 : x ≤ 8) : (body n x).length ≤ 40 := by
  have := cnt_le n
  unfold body; split
  · simp [dstr_len]; omega
  · simp [dstr_len, dsl_len]; omega
/-- the same, the figures as bytes -/
def fig8 (n : Nat) (x p : Int) : UInt8 := UInt8.ofNat (figAt n x p).toNat
theorem fig8_val (n : Nat) (x p : Int) : ((fig8 n x p).toNat : Int) = figAt n x p := by
  have := figAt_bd n x p
  unfold fig8; rw [UInt8.toNat_ofNat']; omega
def fl8 (n : Nat) (x p : Int) : Nat → List (Int × UInt8)
  | 0 => []
  | c + 1 => (p, fig8 n x p) :: fl8 n x (p - 1) c
theorem fl8_len (n : Nat) (x : Int) (c : Nat) : ∀ p, (fl8 n x p c).length = c := by induction c with
  | zero => intro p; rfl
  | succ c ih => intro p; simp [fl8, ih]
theorem fl8_snoc (n : Nat) (x : Int) (a : Nat) : ∀ p : Int, fl8 n x p (a + 1) = fl8 n x p a ++ [(p - a, fig8 n x (p - a))] := by
  induction a with
  | zero => intro p; simp [fl8]
  | succ a ih => intro p; show (p, fig8 n x p) :: fl8 n x (p - 1) (a + 1) = _; rw [ih, show p - 1 - (a : Int) = p - ((a + 1 : Nat) : Int) by omega]; rfl
def one8 (y : Int × UInt8) : List UInt8 := (if y.1 = -1 then [46] else []) ++ [y.2]
def txt8 (l : List (Int × UInt8)) : List UInt8 := l.flatMap one8
theorem txt8_snoc (l : List (Int × UInt8)) (y : Int × UInt8) : txt8 (l ++ [y]) = txt8 l ++ one8 y := by simp [txt8]
theorem txt8_eq (n : Nat) (x : Int) (c : Nat) : ∀ p, txt8 (fl8 n x p c) = txt (fl n x p c) := by
  induction c with
  | zero => intro p; rfl
  | succ c ih =>
    intro p
    show one8 (p, fig8 n x p) ++ txt8 (fl8 n x (p - 1) c) = one (p, figAt n x p) ++ txt (fl n x (p - 1) c)
    rw [ih]; rfl
theorem txt8_len (l : List (Int × UInt8)) : (txt8 l).length ≤ 2 * l.length := by
  induction l with
  | nil => simp [txt8]
  | cons y t ih =>
    show (one8 y ++ txt8 t).length ≤ _
    have : (one8 y).length ≤ 2 := by unfold one8; split <;> simp
    rw [List.length_append, List.length_cons]; omega
end Go.Proofs.Ytalncebnahlmdaa.Tm
/- Contracts of the leaves of chapter 1: within, l1In, l1Big, DecOk of both sides, toDec, eqDec. -/
namespace Go.Proofs.Ytalncebnahlmdaa
open Go.RowKit

theorem ret_bool {a b : Bool} (h : a = b) : Ending.returned (.bool a) = .returned (.bool b) := by rw [h]

set_option maxHeartbeats 400000 in
theorem iDecOk_any (m x : Int) (w : World) :
    Calls Try.prog 83 #[.agg #[.int .i64 m, .int .i64 x]] w fun e w' => e = .returned (.bool (Dm.ok m x)) ∧ Below w.heap.size w w' := by
  go_enter Try.func83, Try.ntmps83
  go_wp2
  all_goals
    go_ret
    exact ⟨ret_bool (by simp_all [Dm.ok]; try omega), (Below.refl _ _).alloc (Nat.le_refl _) _⟩

set_option maxHeartbeats 400000 in
theorem sDecOk_any (m x : Int) (w : World) :
    Calls Try.prog 79 #[.agg #[.int .i64 m, .int .i64 x]] w fun e w' => e = .returned (.bool (Dm.ok m x)) ∧ Below w.heap.size w w' := by
  go_enter Try.func79, Try.ntmps79
  go_wp2
  all_goals
    go_ret
    exact ⟨ret_bool (by simp_all [Dm.ok]; try omega), (Below.refl _ _).alloc (Nat.le_refl _) _⟩

end Go.Proofs.Ytalncebnahlmdaa
/- Small facts on worlds. -/
namespace Go.Proofs.Ytalncebnahlmdaa
open Go.RowKit
theorem bcell {W w1 : World} (hb : Below W.heap.size W w1) : (∀ b o, b < W.heap.size → w1.cell? ⟨b, o, none⟩ = W.cell? ⟨b, o, none⟩) ∧ (∀ b o, b < W.heap.size → w1.frozen? ⟨b, o, none⟩ = W.frozen? ⟨b, o, none⟩) :=
  ⟨fun b o h => hb.cell (p := ⟨b, o, none⟩) h, fun b o h => hb.frozen (p := ⟨b, o, none⟩) h⟩

/-- every cell that was there is as it was, and may be written as before: two rules that need no reckoning with blocks -/
theorem bsome {W w1 : World} (hb : Below W.heap.size W w1) : (∀ b o, (W.cell? ⟨b, o, none⟩).isSome = true → w1.cell? ⟨b, o, none⟩ = W.cell? ⟨b, o, none⟩) ∧ (∀ b o, (W.cell? ⟨b, o, none⟩).isSome = true → w1.frozen? ⟨b, o, none⟩ = W.frozen? ⟨b, o, none⟩) := by
  refine ⟨fun b o h => ?_, fun b o h => ?_⟩
  · obtain ⟨u, hu⟩ := Option.isSome_iff_exists.1 h
    exact hb.cell (p := ⟨b, o, none⟩) (World.block_lt_of_cell? W _ hu)
  · obtain ⟨u, hu⟩ := Option.isSome_iff_exists.1 h
    exact hb.frozen (p := ⟨b, o, none⟩) (World.block_lt_of_cell? W _ hu)
theorem cell_alloc_is (w : World) (b o : Nat) (x : Obj) (h : (w.cell? ⟨b, o, none⟩).isSome = true) : (w.alloc x).cell? ⟨b, o, none⟩ = w.cell? ⟨b, o, none⟩ :=
  (bsome ((Below.refl _ w).alloc (Nat.le_refl _) x)).1 b o h
theorem frozen_alloc_is (w : World) (b o : Nat) (x : Obj) (h : (w.cell? ⟨b, o, none⟩).isSome = true) : (w.alloc x).frozen? ⟨b, o, none⟩ = w.frozen? ⟨b, o, none⟩ :=
  (bsome ((Below.refl _ w).alloc (Nat.le_refl _) x)).2 b o h

end Go.Proofs.Ytalncebnahlmdaa
/- Contracts: l1New, stripped, DecNew of both sides. -/
namespace Go.Proofs.Ytalncebnahlmdaa
open Go.RowKit

/-- the two cells of a decimal that lies in block b, and that they may be written -/
def Two (w : World) (b : Nat) (m e : Int) : Prop :=
  w.cell? ⟨b, 0, none⟩ = some (.int .i64 m) ∧ w.cell? ⟨b, 1, none⟩ = some (.int .i64 e) ∧ w.frozen? ⟨b, 0, none⟩ = false ∧ w.frozen? ⟨b, 1, none⟩ = false
theorem Two.new (w : World) (m e : Int) (T : TypeId) : Two (w.alloc (.cells #[.int .i64 m, .int .i64 e] T)) w.heap.size m e := ⟨by simp, by simp, by simp, by simp⟩
theorem Two.below {w w' : World} {B b : Nat} {m e : Int} (h : Two w b m e) (hb : Below B w w') (hB : b < B) : Two w' b m e :=
  ⟨(hb.cell (p := ⟨b, 0, none⟩) hB).trans h.1, (hb.cell (p := ⟨b, 1, none⟩) hB).trans h.2.1, (hb.frozen (p := ⟨b, 0, none⟩) hB).trans h.2.2.1, (hb.frozen (p := ⟨b, 1, none⟩) hB).trans h.2.2.2⟩
theorem Two.alloc {w : World} {b : Nat} {m e : Int} (h : Two w b m e) (hb : b < w.heap.size) (o : Obj) : Two (w.alloc o) b m e :=
  h.below (((Below.refl w.heap.size w).alloc (Nat.le_refl _) o)) hb
/-- a decimal and a truth, as a call hands them back -/
abbrev dec3 (r : Int × Int × Bool) : Ending := .returned (.tuple #[.agg #[.int .i64 r.1, .int .i64 r.2.1], .bool r.2.2])

set_option maxHeartbeats 400000 in
theorem l1New_any (m x : Int) (w : World) (h1 : -1000000000000000000 ≤ m) (h2 : m ≤ 1000000000000000000) (h3 : -1000 ≤ x) (h4 : x ≤ 1000) :
    Calls Try.prog 95 #[.int .i64 m, .int .i64 x] w fun e w' => e = dec3 (Dm.norm m x) ∧ Below w.heap.size w w' := by
  by_cases h0 : m = 0
  · subst h0
    go_enter Try.func95, Try.ntmps95
    go_wp2_with fail
    exact bodyPost_ret (v := .tuple #[.agg #[.int .i64 0, .int .i64 0], .bool true]) (by simp [results, Try.results95, go_sem]) rfl ⟨rfl, (by (repeat' (first | assumption | exact Below.refl _ _ | refine Below.alloc ?_ ?_ _ | refine Below.setCell ?_ ?_ _ | refine Below.drew ?_ | refine below_drewN ?_ _)) <;> (first | omega | (simp <;> omega)))⟩
  · have hb0 : (m == 0) = false := by simp [h0]
    have S0 := Dm.Strip.start m x h0 h1 h2
    go_enter Try.func95, Try.ntmps95
    go_wp2_with fail
    go_loop [0, 1] (fun a b => ∃ (j : Nat) (m' e' : Int), a = .int .i64 m' ∧ b = .int .i64 e' ∧ Dm.Strip m x j m' e') (fun a _ => (intOf a).natAbs)
    case atStart => exact ⟨0, m, x, rfl, rfl, S0⟩
    case round =>
      obtain ⟨j, m', e', rfl, rfl, S⟩ := hrel
      have hbd := S.bound
      obtain ⟨hj, hm1, hm2⟩ := hbd
      have he := S.2.2.1
      have he1 : e' ≤ 1018 := by omega
      have he2 : -1000 ≤ e' := by omega
      have hne := S.1
      clear he S0
      by_cases hz : m'.tmod 10 = 0
      · have hzb : (m'.tmod 10 == 0) = true := by simp [hz]
        have S1 := S.step hz
        clear hz
        go_wp2_with fail
        go_round
        case rel => exact ⟨j + 1, _, _, rfl, rfl, S1⟩
        case measure => exact Dm.tdiv_lt m' hne
      · have hzb : (m'.tmod 10 == 0) = false := by simp [hz]
        have HZ : Hid (m'.tmod 10 ≠ 0) := hz
        clear hz
        go_wp2_with fail
        refine (sDecOk_any _ _ _).mono ?_
        rintro e w2 ⟨rfl, hb2⟩
        obtain ⟨hc2, hf2⟩ := bcell hb2
        have hz2 := hb2.size
        simp at hz2
        have c0 : w2.cell? ⟨w.heap.size, 0, none⟩ = some (.int .i64 0) := by rw [hc2 _ _ (by simp; omega)]; simp
        have c1 : w2.cell? ⟨w.heap.size, 1, none⟩ = some (.int .i64 0) := by rw [hc2 _ _ (by simp; omega)]; simp
        have hB2 : Below w.heap.size w w2 := Below.trans (by (repeat' (first | assumption | exact Below.refl _ _ | refine Below.alloc ?_ ?_ _ | refine Below.setCell ?_ ?_ _ | refine Below.drew ?_ | refine below_drewN ?_ _)) <;> (first | omega | (simp <;> omega))) (hb2.mono (by simp; omega))
        cases ho : Dm.ok m' e'
        · have hfin := S.norm_no h0 HZ.out ho
          have HF : Hid (Dm.norm m x = (0, 0, false)) := hfin
          clear hfin
          go_wp2_with fail
          exact bodyPost_ret (v := .tuple #[.agg #[.int .i64 0, .int .i64 0], .bool false]) (by simp [results, Try.results95, go_sem, c0, c1]) rfl ⟨by rw [HF.out], (by (repeat' (first | assumption | exact Below.refl _ _ | refine Below.alloc ?_ ?_ _ | refine Below.setCell ?_ ?_ _ | refine Below.drew ?_ | refine below_drewN ?_ _)) <;> (first | omega | (simp <;> omega)))⟩
        · have hfin := S.norm_ok h0 HZ.out ho
          have HF : Hid (Dm.norm m x = (m', e', true)) := hfin
          clear hfin
          go_wp2_with fail
          exact bodyPost_ret (v := .tuple #[.agg #[.int .i64 m', .int .i64 e'], .bool true]) (by simp [results, Try.results95, go_sem, c0, c1]) rfl ⟨by rw [HF.out], (by (repeat' (first | assumption | exact Below.refl _ _ | refine Below.alloc ?_ ?_ _ | refine Below.setCell ?_ ?_ _ | refine Below.drew ?_ | refine below_drewN ?_ _)) <;> (first | omega | (simp <;> omega)))⟩

end Go.Proofs.Ytalncebnahlmdaa
/- Contracts: DecMul of both sides. -/
namespace Go.Proofs.Ytalncebnahlmdaa
open Go.RowKit

/-- two decimals that came in, and the one that goes out, in three blocks in a row -/
def Three (w : World) (b : Nat) (m x n y p q : Int) : Prop := Two w b m x ∧ Two w (b + 1) n y ∧ Two w (b + 2) p q ∧ b + 2 < w.heap.size
theorem Three.new (w : World) (m x n y p q : Int) (T U V : TypeId) : Three (((w.alloc (.cells #[.int .i64 m, .int .i64 x] T)).alloc (.cells #[.int .i64 n, .int .i64 y] U)).alloc (.cells #[.int .i64 p, .int .i64 q] V)) w.heap.size m x n y p q := by
  have h1 := Two.new w m x T
  have h2 := Two.new (w.alloc (.cells #[.int .i64 m, .int .i64 x] T)) n y U
  have h3 := Two.new ((w.alloc (.cells #[.int .i64 m, .int .i64 x] T)).alloc (.cells #[.int .i64 n, .int .i64 y] U)) p q V
  rw [World.size_alloc] at h2 h3
  rw [World.size_alloc] at h3
  exact ⟨(h1.alloc (by simp) _).alloc (by simp; omega) _, h2.alloc (by simp) _, h3, by simp⟩
theorem Three.below {w w' : World} {b : Nat} {m x n y p q : Int} (h : Three w b m x n y p q) (hb : Below w.heap.size w w') : Three w' b m x n y p q := by
  obtain ⟨h1, h2, h3, h4⟩ := h
  have := hb.size
  exact ⟨h1.below hb (by omega), h2.below hb (by omega), h3.below hb (by omega), by omega⟩
end Go.Proofs.Ytalncebnahlmdaa
/- Contracts: l1Least, l1Up, tenTo, manAt, l1Add, DecAdd of both sides. -/
namespace Go.Proofs.Ytalncebnahlmdaa
open Go.RowKit

theorem ret_int {k : IntKind} {a b : Int} (h : a = b) : Ending.returned (.int k a) = .returned (.int k b) := by rw [h]
/-- a number and a truth, as a call hands them back -/
abbrev int2 (r : Int × Bool) : Ending := .returned (.tuple #[.int .i64 r.1, .bool r.2])

set_option maxHeartbeats 400000 in
theorem tenTo_any (p : Int) (w : World) (h0 : 0 ≤ p) (h1 : p ≤ 18) :
    Calls Try.prog 106 #[.int .i64 p] w fun e w' => e = .returned (.int .i64 (Dm.p10 p)) ∧ w' = w := by
  go_enter Try.func106, Try.ntmps106
  go_wp2
  go_loop [3, 5] (fun t i => ∃ k : Int, 0 ≤ k ∧ k ≤ p ∧ i = .int .i64 k ∧ t = .int .i64 (Dm.p10 k)) (fun _ i => (p - intOf i).toNat)
  case atStart => exact ⟨0, by omega, by omega, rfl, rfl⟩
  case round =>
    obtain ⟨k, hk0, hk1, rfl, rfl⟩ := hrel
    by_cases hlt : k < p
    · have hp := Dm.p10_pos k
      have hb := Dm.p10_mono (j := k) (k := 17) (by omega)
      have hb2 : Dm.p10 17 = 100000000000000000 := rfl
      rw [hb2] at hb
      clear hb2
      have HS : Hid (Dm.p10 (k + 1) = Dm.p10 k * 10) := Dm.p10_succ k hk0
      go_wp2
      go_round
      case rel => exact ⟨k + 1, by omega, by omega, by go_num, by rw [HS.out]⟩
      case measure => simp [intOf]; omega
    · have : k = p := by omega
      subst this
      go_wp2
      go_ret
      exact ⟨rfl, rfl⟩

set_option maxHeartbeats 400000 in
theorem manAt_any (m x p : Int) (w : World) (hm : Dm.ok m x = true) (hp : p ≤ x) (hp2 : -8 ≤ p) :
    Calls Try.prog 88 #[.agg #[.int .i64 m, .int .i64 x], .int .i64 p] w fun e w' => e = int2 (Dm.manAt m x p) ∧ Below w.heap.size w w' := by
  obtain ⟨b1, b2, b3, b4⟩ := Dm.ok_bd hm
  by_cases h0 : m = 0
  · subst h0
    go_enter Try.func88, Try.ntmps88
    go_wp2
    go_ret2
    exact ⟨rfl, (by (repeat' (first | assumption | exact Below.refl _ _ | refine Below.alloc ?_ ?_ _ | refine Below.setCell ?_ ?_ _ | refine Below.drew ?_ | refine below_drewN ?_ _)) <;> (first | omega | (simp <;> omega)))⟩
  · have hz : (m == 0) = false := by simp [h0]
    by_cases h8 : 8 < x - p
    · have HF : Hid (Dm.manAt m x p = (0, false)) := by unfold Hid; simp [Dm.manAt, h0, h8]
      go_enter Try.func88, Try.ntmps88
      go_wp2
      go_ret2
      exact ⟨by rw [HF.out]; rfl, (by (repeat' (first | assumption | exact Below.refl _ _ | refine Below.alloc ?_ ?_ _ | refine Below.setCell ?_ ?_ _ | refine Below.drew ?_ | refine below_drewN ?_ _)) <;> (first | omega | (simp <;> omega)))⟩
    · have HF : Hid (Dm.manAt m x p = (m * Dm.p10 (x - p), true)) := by unfold Hid; simp [Dm.manAt, h0, h8]
      have hb := Dm.mul_bd (m := m) (n := Dm.p10 (x - p)) 99999999 100000000 (by omega) (by omega) (by omega) (by have := Dm.p10_pos (x - p); omega) (Dm.p10_mono (k := 8) (by omega))
      obtain ⟨hb1, hb2⟩ := hb
      go_enter Try.func88, Try.ntmps88
      go_wp2_with fail
      go_quiet ((go_at_call 106; exact Calls.quiet_of_same (tenTo_any _ _ (by omega) (by omega))))
      go_wp2
      go_ret2
      exact ⟨by rw [HF.out]; rfl, below_drewN (by (repeat' (first | assumption | exact Below.refl _ _ | refine Below.alloc ?_ ?_ _ | refine Below.setCell ?_ ?_ _ | refine Below.drew ?_ | refine below_drewN ?_ _)) <;> (first | omega | (simp <;> omega))) _⟩
end Go.Proofs.Ytalncebnahlmdaa
/- Contracts: l1Add, DecAdd of both sides. -/
namespace Go.Proofs.Ytalncebnahlmdaa
open Go.RowKit

theorem hideIt {p : Prop} (h : p) : Hid p := h
end Go.Proofs.Ytalncebnahlmdaa
/- What is held of the world while two decimals that lie in memory are handed on to calls, in whatever order. -/
namespace Go.Proofs.Ytalncebnahlmdaa
open Go.RowKit

/-- two decimals lie in blocks b and d, and nothing that was there in W0 has turned -/
def Held (W0 : World) (b d : Nat) (m x n y : Int) (w' : World) : Prop :=
  w'.cell? ⟨b, 0, none⟩ = some (.int .i64 m) ∧ w'.cell? ⟨b, 1, none⟩ = some (.int .i64 x) ∧ w'.cell? ⟨d, 0, none⟩ = some (.int .i64 n) ∧ w'.cell? ⟨d, 1, none⟩ = some (.int .i64 y) ∧ Below W0.heap.size W0 w'
theorem lt_of_cell {W : World} {b o : Nat} {v : Value} (h : W.cell? ⟨b, o, none⟩ = some v) : b < W.heap.size := World.block_lt_of_cell? W _ h
theorem Held.below {W0 W w1 : World} {b d : Nat} {m x n y : Int} (h : Held W0 b d m x n y W) (hb : Below W.heap.size W w1) : Held W0 b d m x n y w1 := by
  obtain ⟨h1, h2, h3, h4, h6⟩ := h
  have := hb.size
  have := h6.size
  have b0 := lt_of_cell h1
  have d0 := lt_of_cell h3
  exact ⟨(hb.cell (p := ⟨b, 0, none⟩) b0).trans h1, (hb.cell (p := ⟨b, 1, none⟩) b0).trans h2, (hb.cell (p := ⟨d, 0, none⟩) d0).trans h3, (hb.cell (p := ⟨d, 1, none⟩) d0).trans h4, h6.trans (hb.mono (by omega))⟩
theorem Held.alloc {W0 W : World} {b d : Nat} {m x n y : Int} (h : Held W0 b d m x n y W) (o : Obj) : Held W0 b d m x n y (W.alloc o) := h.below ((Below.refl _ _).alloc (Nat.le_refl _) o)
theorem Held.drew {W0 W : World} {b d : Nat} {m x n y : Int} (h : Held W0 b d m x n y W) : Held W0 b d m x n y W.drew := h.below ((Below.refl _ _).drew)
theorem Held.start {W : World} {b d : Nat} {m x n y : Int} (h1 : W.cell? ⟨b, 0, none⟩ = some (.int .i64 m)) (h2 : W.cell? ⟨b, 1, none⟩ = some (.int .i64 x)) (h3 : W.cell? ⟨d, 0, none⟩ = some (.int .i64 n)) (h4 : W.cell? ⟨d, 1, none⟩ = some (.int .i64 y)) : Held W b d m x n y W :=
  ⟨h1, h2, h3, h4, Below.refl _ _⟩
theorem Held.set {W0 W : World} {b d : Nat} {m x n y : Int} (h : Held W0 b d m x n y W) (hb : b < W0.heap.size) (hd : d < W0.heap.size) {k : Nat} (hk : W0.heap.size ≤ k) (u v : Value) : Held W0 b d m x n y ((W.setCell ⟨k, 0, none⟩ u).setCell ⟨k, 1, none⟩ v) := by
  have q : Below W0.heap.size W ((W.setCell ⟨k, 0, none⟩ u).setCell ⟨k, 1, none⟩ v) := ((Below.refl _ W).setCell (p := ⟨k, 0, none⟩) hk u).setCell (p := ⟨k, 1, none⟩) hk v
  obtain ⟨h1, h2, h3, h4, h6⟩ := h
  exact ⟨(q.cell (p := ⟨b, 0, none⟩) hb).trans h1, (q.cell (p := ⟨b, 1, none⟩) hb).trans h2, (q.cell (p := ⟨d, 0, none⟩) hd).trans h3, (q.cell (p := ⟨d, 1, none⟩) hd).trans h4, h6.trans q⟩

/-- the same, but of blocks below k alone it is said that they have not turned -/
def HeldK (k : Nat) (W0 : World) (b d : Nat) (m x n y : Int) (w' : World) : Prop :=
  w'.cell? ⟨b, 0, none⟩ = some (.int .i64 m) ∧ w'.cell? ⟨b, 1, none⟩ = some (.int .i64 x) ∧ w'.cell? ⟨d, 0, none⟩ = some (.int .i64 n) ∧ w'.cell? ⟨d, 1, none⟩ = some (.int .i64 y) ∧ k ≤ w'.heap.size ∧ Below k W0 w'
theorem HeldK.below {k : Nat} {W0 W w1 : World} {b d : Nat} {m x n y : Int} (h : HeldK k W0 b d m x n y W) (hb : Below W.heap.size W w1) : HeldK k W0 b d m x n y w1 := by
  obtain ⟨h1, h2, h3, h4, h5, h6⟩ := h
  have := hb.size
  have b0 := lt_of_cell h1
  have d0 := lt_of_cell h3
  exact ⟨(hb.cell (p := ⟨b, 0, none⟩) b0).trans h1, (hb.cell (p := ⟨b, 1, none⟩) b0).trans h2, (hb.cell (p := ⟨d, 0, none⟩) d0).trans h3, (hb.cell (p := ⟨d, 1, none⟩) d0).trans h4, by omega, h6.trans (hb.mono (by omega))⟩
theorem HeldK.drew {k : Nat} {W0 W : World} {b d : Nat} {m x n y : Int} (h : HeldK k W0 b d m x n y W) : HeldK k W0 b d m x n y W.drew := h.below ((Below.refl _ _).drew)
theorem HeldK.start {k : Nat} {W : World} {b d : Nat} {m x n y : Int} (h1 : W.cell? ⟨b, 0, none⟩ = some (.int .i64 m)) (h2 : W.cell? ⟨b, 1, none⟩ = some (.int .i64 x)) (h3 : W.cell? ⟨d, 0, none⟩ = some (.int .i64 n)) (h4 : W.cell? ⟨d, 1, none⟩ = some (.int .i64 y)) (h5 : k ≤ W.heap.size) : HeldK k W b d m x n y W :=
  ⟨h1, h2, h3, h4, h5, Below.refl _ _⟩
theorem HeldK.set {k : Nat} {W0 W : World} {b d : Nat} {m x n y : Int} (h : HeldK k W0 b d m x n y W) (hb : b < k) (hd : d < k) {j : Nat} (hk : k ≤ j) (u v : Value) : HeldK k W0 b d m x n y ((W.setCell ⟨j, 0, none⟩ u).setCell ⟨j, 1, none⟩ v) := by
  have q : Below k W ((W.setCell ⟨j, 0, none⟩ u).setCell ⟨j, 1, none⟩ v) := ((Below.refl _ W).setCell (p := ⟨j, 0, none⟩) hk u).setCell (p := ⟨j, 1, none⟩) hk v
  obtain ⟨h1, h2, h3, h4, h5, h6⟩ := h
  have := q.size
  exact ⟨(q.cell (p := ⟨b, 0, none⟩) hb).trans h1, (q.cell (p := ⟨b, 1, none⟩) hb).trans h2, (q.cell (p := ⟨d, 0, none⟩) hd).trans h3, (q.cell (p := ⟨d, 1, none⟩) hd).trans h4, by omega, h6.trans q⟩
end Go.Proofs.Ytalncebnahlmdaa
/- Contracts: l1Neg, opposite, DecSub of both sides. -/
namespace Go.Proofs.Ytalncebnahlmdaa
open Go.RowKit
attribute [local go_sem] cell_alloc_is frozen_alloc_is
end Go.Proofs.Ytalncebnahlmdaa
/- Contracts: l1Dec (the decimal text of a whole number). -/
namespace Go.Proofs.Ytalncebnahlmdaa
open Go.RowKit
attribute [local go_sem] cell_alloc_is frozen_alloc_is

end Go.Proofs.Ytalncebnahlmdaa
/- Contracts: the text of a decimal as the specification makes it. -/
namespace Go.Proofs.Ytalncebnahlmdaa
open Go.RowKit
attribute [local go_sem] cell_alloc_is frozen_alloc_is

/-- so many noughts -/
abbrev noughts (a : Nat) : ByteArray := ⟨(List.replicate a (48 : UInt8)).toArray⟩
/-- the text of a decimal; empty, if it is not in its form -/
def textOf (m x : Int) : List UInt8 := if Dm.ok m x = true then Tm.text m x else []
end Go.Proofs.Ytalncebnahlmdaa
