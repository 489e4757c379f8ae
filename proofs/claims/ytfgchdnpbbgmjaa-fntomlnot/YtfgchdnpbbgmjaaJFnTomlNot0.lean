/- My own texts, joined: Dm Dm4 Tm DecA DecB DecC DecD DecE DecF Held DecG DecL TxtA. -/
import Derived.Test.YtfgchdnpbbgmjaaRows
import Derived.WalkKit
import Derived.WalkSpells
import Derived.WalkLawsBesides
import Derived.Deep.LoopGhost
import Derived.Deep.QuietTactic
import Derived.BigQuiet
import Derived.Deep.RegionHeld3
import Derived.Deep.DeepCutAuto
import Derived.OpenShut
import Derived.Laws.IdiomStrings
/- Plain mathematics of decimals: no program in it. -/
namespace Go.Proofs.Ytfgchdnpbbgmjaa.Dm
theorem tm (m : Int) : 10 * m.tdiv 10 + m.tmod 10 = m := Int.mul_tdiv_add_tmod m 10
theorem tmb (m : Int) : -10 < m.tmod 10 ∧ m.tmod 10 < 10 ∧ (0 ≤ m → 0 ≤ m.tmod 10) ∧ (m ≤ 0 → m.tmod 10 ≤ 0) := by
  refine ⟨?_, ?_, fun h => Int.tmod_nonneg _ h, fun h => ?_⟩
  · by_cases h : 0 ≤ m
    · have := Int.tmod_nonneg 10 h; omega
    · have h1 : (-m).tmod 10 < 10 := Int.tmod_lt_of_pos _ (by omega)
      rw [Int.neg_tmod] at h1; omega
  · exact Int.tmod_lt_of_pos _ (by omega)
  · have h1 : 0 ≤ (-m).tmod 10 := Int.tmod_nonneg _ (by omega)
    rw [Int.neg_tmod] at h1; omega
def strip : Nat → Int → Int → Int × Int
  | 0, m, e => (m, e)
  | k + 1, m, e => if m.tmod 10 = 0 then strip k (m.tdiv 10) (e + 1) else (m, e)

theorem tdiv_lt (m : Int) (h : m ≠ 0) : (m.tdiv 10).natAbs < m.natAbs := by
  have := tm m; have := tmb m; omega
theorem strip_at (k : Nat) (m e : Int) (h : m.tmod 10 ≠ 0) : strip k m e = (m, e) := by
  cases k with
  | zero => rfl
  | succ k => rw [strip, if_neg h]

/-- in its form -/
def ok (m e : Int) : Bool := if m = 0 then e == 0 else decide (-99999999 ≤ m) && decide (m ≤ 99999999) && decide (-8 ≤ e) && decide (e ≤ 8) && (m.tmod 10 != 0)
theorem ok_iff (m e : Int) : ok m e = true ↔ (m = 0 ∧ e = 0) ∨ (m ≠ 0 ∧ -99999999 ≤ m ∧ m ≤ 99999999 ∧ -8 ≤ e ∧ e ≤ 8 ∧ m.tmod 10 ≠ 0) := by
  unfold ok
  by_cases h : m = 0 <;> simp [h, and_assoc]
/-- the number in its form, if it has room -/
def norm (m e : Int) : Int × Int × Bool :=
  if m = 0 then (0, 0, true) else if ok (strip 20 m e).1 (strip 20 m e).2 then ((strip 20 m e).1, (strip 20 m e).2, true) else (0, 0, false)
/-- what a stripping loop has come to behind j rounds -/
def Strip (m e : Int) (j : Nat) (m' e' : Int) : Prop :=
  m' ≠ 0 ∧ m'.natAbs * 10 ^ j ≤ 1000000000000000000 ∧ e' = e + j ∧ strip (20 - j) m' e' = strip 20 m e
theorem Strip.start (m e : Int) (h0 : m ≠ 0) (h1 : -1000000000000000000 ≤ m) (h2 : m ≤ 1000000000000000000) : Strip m e 0 m e :=
  ⟨h0, by omega, by omega, rfl⟩
theorem pow10_le {a j : Nat} (ha : 1 ≤ a) (h : a * 10 ^ j ≤ 1000000000000000000) : j ≤ 18 := by
  by_cases hj : j ≤ 18
  · exact hj
  · have h1 : 10 ^ 19 ≤ 10 ^ j := Nat.pow_le_pow_right (by omega) (by omega)
    have h2 : 1 * 10 ^ j ≤ a * 10 ^ j := Nat.mul_le_mul_right _ ha
    omega
theorem Strip.bound {m e m' e' : Int} {j : Nat} (h : Strip m e j m' e') : j ≤ 18 ∧ -1000000000000000000 ≤ m' ∧ m' ≤ 1000000000000000000 := by
  obtain ⟨h0, h1, h2, h3⟩ := h
  have hj := pow10_le (a := m'.natAbs) (by omega) h1
  have : m'.natAbs * 1 ≤ m'.natAbs * 10 ^ j := Nat.mul_le_mul_left _ (Nat.one_le_pow j 10 (by omega))
  omega
theorem Strip.step {m e m' e' : Int} {j : Nat} (h : Strip m e j m' e') (hz : m'.tmod 10 = 0) : Strip m e (j + 1) (m'.tdiv 10) (e' + 1) := by
  have hb := h.bound
  obtain ⟨h0, h1, h2, h3⟩ := h
  have ht := tm m'
  rw [hz] at ht
  refine ⟨by omega, ?_, by omega, ?_⟩
  · have : m'.natAbs = 10 * (m'.tdiv 10).natAbs := by omega
    rw [this] at h1
    rw [Nat.pow_succ, Nat.mul_comm (10 ^ j) 10, ← Nat.mul_assoc, Nat.mul_comm _ 10]
    exact h1
  · rw [← h3, show 20 - j = (20 - (j + 1)) + 1 from by omega, strip, if_pos hz]
theorem Strip.stop {m e m' e' : Int} {j : Nat} (h : Strip m e j m' e') (hz : m'.tmod 10 ≠ 0) : strip 20 m e = (m', e') := by
  obtain ⟨h0, h1, h2, h3⟩ := h
  rw [← h3, strip_at _ _ _ hz]
theorem Strip.norm_ok {m e m' e' : Int} {j : Nat} (h : Strip m e j m' e') (hm : m ≠ 0) (hz : m'.tmod 10 ≠ 0) (ho : ok m' e' = true) : norm m e = (m', e', true) := by
  rw [norm, if_neg hm, h.stop hz]; simp [ho]
theorem Strip.norm_no {m e m' e' : Int} {j : Nat} (h : Strip m e j m' e') (hm : m ≠ 0) (hz : m'.tmod 10 ≠ 0) (ho : ok m' e' = false) : norm m e = (0, 0, false) := by
  rw [norm, if_neg hm, h.stop hz]; simp [ho]
/-- DecNew -/
def new (m e : Int) : Int × Int × Bool :=
  if (-100000000000000000 ≤ m ∧ m ≤ 100000000000000000) ∧ (-32 ≤ e ∧ e ≤ 32) then norm m e else (0, 0, false)
theorem ok_bd {m e : Int} (h : ok m e = true) : -99999999 ≤ m ∧ m ≤ 99999999 ∧ -8 ≤ e ∧ e ≤ 8 := by
  rw [ok_iff] at h; omega
/-- a whole number times a power of ten -/
def p10 (k : Int) : Int := (10 : Int) ^ k.toNat
theorem p10_succ (k : Int) (h : 0 ≤ k) : p10 (k + 1) = p10 k * 10 := by
  unfold p10; rw [show (k + 1).toNat = k.toNat + 1 from by omega, Int.pow_succ]
theorem p10_pos (k : Int) : 1 ≤ p10 k := by
  have : (0 : Int) < 10 ^ k.toNat := Int.pow_pos (by omega)
  unfold p10; omega
theorem p10_mono {j k : Int} (h : j ≤ k) : p10 j ≤ p10 k := by
  unfold p10
  have : (10 : Nat) ^ j.toNat ≤ 10 ^ k.toNat := Nat.pow_le_pow_right (by omega) (by omega)
  exact_mod_cast this
/-- manAt -/
def manAt (m x p : Int) : Int × Bool := if m = 0 then (0, true) else if 8 < x - p then (0, false) else (m * p10 (x - p), true)
/-- l1Up behind so many rounds: nothing, if it went too far on the way -/
def up : Nat → Int → Int × Bool
  | 0, n => (n, true)
  | k + 1, n => if 1000000000 < n * 10 ∨ n * 10 < -1000000000 then (0, false) else up k (n * 10)
/-- DecAdd of two in their form -/
def add1 (m x n y : Int) : Int × Int × Bool :=
  if (manAt m x (min x y)).2 = true ∧ (manAt n y (min x y)).2 = true then new ((manAt m x (min x y)).1 + (manAt n y (min x y)).1) (min x y) else (0, 0, false)
def add (m x n y : Int) : Int × Int × Bool := if ok m x = true ∧ ok n y = true then add1 m x n y else (0, 0, false)
/-- DecSub -/
def sub (m x n y : Int) : Int × Int × Bool := if ok m x = true ∧ ok n y = true then add1 m x (-n) y else (0, 0, false)
end Go.Proofs.Ytfgchdnpbbgmjaa.Dm
/- Plain mathematics of figures and of the order of decimals: no program in it. -/
namespace Go.Proofs.Ytfgchdnpbbgmjaa.Dm
/-- the figures of a whole number, so many at most -/
def digs : Nat → Nat → List UInt8
  | 0, _ => []
  | k + 1, n => if n < 10 then [UInt8.ofNat (48 + n)] else digs k (n / 10) ++ [UInt8.ofNat (48 + n % 10)]

theorem digs_len (k : Nat) : ∀ n, (digs k n).length ≤ k := by
  induction k with
  | zero => intro n; exact Nat.le_refl _
  | succ k ih =>
    intro n
    rw [digs]
    by_cases h : n < 10
    · rw [if_pos h]; simp
    · rw [if_neg h]; have := ih (n / 10); simp; omega

theorem digs_log (k : Nat) : ∀ n, 1 ≤ n → n < 10 ^ k → 1 ≤ (digs k n).length ∧ 10 ^ ((digs k n).length - 1) ≤ n ∧ n < 10 ^ (digs k n).length := by
  induction k with
  | zero => intro n h1 h2; simp at h2; omega
  | succ k ih =>
    intro n h1 h2
    rw [digs]
    by_cases h : n < 10
    · rw [if_pos h]; simp; omega
    · rw [if_neg h]
      have e := ih (n / 10) (by omega) (by rw [Nat.pow_succ] at h2; omega)
      obtain ⟨e1, e2, e3⟩ := e
      simp only [List.length_append, List.length_cons, List.length_nil, Nat.zero_add, Nat.add_sub_cancel]
      refine ⟨by omega, ?_, ?_⟩
      · have : 10 ^ (digs k (n / 10)).length = 10 ^ ((digs k (n / 10)).length - 1) * 10 := by rw [← Nat.pow_succ]; congr 1; omega
        omega
      · rw [Nat.pow_succ]; omega
/-- what a decimal is worth at the last place -/
def val (m x : Int) : Int := m * p10 (x + 8)
end Go.Proofs.Ytfgchdnpbbgmjaa.Dm
/- Plain mathematics: the text of a decimal. -/
namespace Go.Proofs.Ytfgchdnpbbgmjaa.Tm
def dig (n j : Nat) : UInt8 := UInt8.ofNat (48 + n / 10 ^ j % 10)
/-- the last c figures of a whole number, the greatest first -/
def dstr (n : Nat) : Nat → List UInt8
  | 0 => []
  | c + 1 => dig n c :: dstr n c
/-- a figures, those ahead of the last b -/
def dsl (n b : Nat) : Nat → List UInt8
  | 0 => []
  | a + 1 => dig n (a + b) :: dsl n b a
theorem dstr_len (n c : Nat) : (dstr n c).length = c := by induction c with
  | zero => rfl
  | succ c ih => simp [dstr, ih]
theorem dsl_len (n b a : Nat) : (dsl n b a).length = a := by induction a with
  | zero => rfl
  | succ a ih => simp [dsl, ih]
theorem dstr_add (n b a : Nat) : dstr n (a + b) = dsl n b a ++ dstr n b := by induction a with
  | zero => simp [dsl]
  | succ a ih => rw [Nat.succ_add]; show dig n (a + b) :: dstr n (a + b) = _; rw [ih]; rfl
theorem dig_succ (n c : Nat) : dig n (c + 1) = dig (n / 10) c := by unfold dig; rw [Nat.pow_succ, Nat.mul_comm, ← Nat.div_div_eq_div_mul]
theorem dstr_snoc (n c : Nat) : dstr n (c + 1) = dstr (n / 10) c ++ [dig n 0] := by
  induction c with
  | zero => rfl
  | succ c ih => show dig n (c + 1) :: dstr n (c + 1) = dig (n / 10) c :: dstr (n / 10) c ++ [dig n 0]; rw [ih, dig_succ]; rfl
theorem dig_zero (n : Nat) : dig n 0 = UInt8.ofNat (48 + n % 10) := by simp [dig]
theorem digs_dstr (k : Nat) : ∀ n, Dm.digs k n = dstr n (Dm.digs k n).length := by
  induction k with
  | zero => intro n; rfl
  | succ k ih =>
    intro n
    by_cases h : n < 10
    · have e : Dm.digs (k + 1) n = [UInt8.ofNat (48 + n)] := by rw [Dm.digs, if_pos h]
      rw [e]; show _ = [dig n 0]; rw [dig_zero, Nat.mod_eq_of_lt h]
    · have e : Dm.digs (k + 1) n = Dm.digs k (n / 10) ++ [UInt8.ofNat (48 + n % 10)] := by rw [Dm.digs, if_neg h]
      rw [e, List.length_append, List.length_singleton, dstr_snoc, dig_zero, ← ih]
def nd : Nat → Nat → Nat
  | 0, _ => 0
  | f + 1, n => if n = 0 then 0 else 1 + nd f (n / 10)
theorem nd_zero (f : Nat) : nd f 0 = 0 := by cases f <;> simp [nd]
theorem nd_succ (f n : Nat) (h : n ≠ 0) : nd (f + 1) n = 1 + nd f (n / 10) := by simp [nd, h]
theorem digs_nd (k : Nat) : ∀ n, (Dm.digs (k + 1) n).length = 1 + nd k (n / 10) := by
  induction k with
  | zero => intro n; rw [Dm.digs]; split <;> simp [Dm.digs, nd]
  | succ k ih =>
    intro n
    rw [Dm.digs]
    by_cases h : n < 10
    · rw [if_pos h, show n / 10 = 0 by omega, nd_zero]; rfl
    · rw [if_neg h, List.length_append, List.length_singleton, ih, nd_succ _ _ (by omega)]; omega
def cnt (n : Nat) : Nat := (Dm.digs 9 n).length
theorem cnt_pos (n : Nat) : 1 ≤ cnt n := by unfold cnt; rw [digs_nd]; omega
theorem cnt_le (n : Nat) : cnt n ≤ 9 := Dm.digs_len 9 n
theorem lt_cnt (n : Nat) (h : n ≤ 99999999) : n < 10 ^ cnt n := by
  by_cases h0 : n = 0
  · subst h0; exact Nat.pow_pos (by omega)
  · exact (Dm.digs_log 9 n (by omega) (by omega)).2.2
theorem dig_none {n c : Nat} (h : n < 10 ^ c) : dig n c = 48 := by unfold dig; rw [Nat.div_eq_of_lt h]; rfl
/-- the figure at a place -/
def figAt (n : Nat) (x p : Int) : Int := if p < x then 48 else 48 + ((n / 10 ^ (p - x).toNat % 10 : Nat) : Int)
theorem figAt_bd (n : Nat) (x p : Int) : 48 ≤ figAt n x p ∧ figAt n x p ≤ 57 := by
  unfold figAt; split
  · omega
  · have := Nat.mod_lt (n / 10 ^ (p - x).toNat) (show 10 > 0 by omega); omega
/-- places and their figures, downward from p -/
def fl (n : Nat) (x p : Int) : Nat → List (Int × Int)
  | 0 => []
  | c + 1 => (p, figAt n x p) :: fl n x (p - 1) c
theorem fl_add (n : Nat) (x : Int) (b : Nat) (a : Nat) : ∀ p : Int, fl n x p (a + b) = fl n x p a ++ fl n x (p - a) b := by
  induction a with
  | zero => intro p; simp [fl]
  | succ a ih => intro p; rw [Nat.succ_add]; show (p, figAt n x p) :: fl n x (p - 1) (a + b) = _; rw [ih, show p - 1 - (a : Int) = p - ((a + 1 : Nat) : Int) by omega]; rfl
def one (y : Int × Int) : List UInt8 := (if y.1 = -1 then [46] else []) ++ [UInt8.ofNat y.2.toNat]
def txt (l : List (Int × Int)) : List UInt8 := l.flatMap one
theorem one_fig (n : Nat) (x p : Int) (h : p ≠ -1) (hx : x ≤ p) : one (p, figAt n x p) = [dig n (p - x).toNat] := by
  unfold one figAt dig
  rw [if_neg h, if_neg (by omega)]
  simp only [List.nil_append]
  congr 2
theorem one_nought (n : Nat) (x p : Int) (h : p ≠ -1) (hx : p < x) : one (p, figAt n x p) = [48] := by
  unfold one figAt; rw [if_neg h, if_pos hx]; rfl
theorem one_point (n : Nat) (x : Int) (hx : x ≤ -1) : one (-1, figAt n x (-1)) = [46, dig n (-1 - x).toNat] := by
  unfold one figAt dig
  rw [if_pos rfl, if_neg (by omega)]
  simp only [List.cons_append, List.nil_append]
  congr 3
theorem txt_cons (y : Int × Int) (l : List (Int × Int)) : txt (y :: l) = one y ++ txt l := by simp [txt]
/-- figures ahead of the point -/
theorem txt_ahead (n : Nat) (x : Int) (b : Nat) (a : Nat) : ∀ p : Int, p = (a : Int) + b + x - 1 → 0 ≤ (b : Int) + x → txt (fl n x p a) = dsl n b a := by
  induction a with
  | zero => intro p _ _; rfl
  | succ a ih =>
    intro p hp hb
    show txt ((p, figAt n x p) :: fl n x (p - 1) a) = dig n (a + b) :: dsl n b a
    rw [txt_cons, one_fig n x p (by omega) (by omega), ih (p - 1) (by omega) hb, show (p - x).toNat = a + b by omega]; rfl
theorem txt_noughts (n : Nat) (x : Int) (a : Nat) : ∀ p : Int, p = (a : Int) - 1 → p < x → txt (fl n x p a) = List.replicate a 48 := by
  induction a with
  | zero => intro p _ _; rfl
  | succ a ih =>
    intro p hp hx
    show txt ((p, figAt n x p) :: fl n x (p - 1) a) = _
    rw [txt_cons, one_nought n x p (by omega) hx, ih (p - 1) (by omega) (by omega), List.replicate_succ]; rfl
/-- figures behind the point, the first aside -/
theorem txt_behind (n : Nat) (x : Int) (a : Nat) : ∀ p : Int, p = (a : Int) + x - 1 → p < -1 → txt (fl n x p a) = dstr n a := by
  induction a with
  | zero => intro p _ _; rfl
  | succ a ih =>
    intro p hp hx
    show txt ((p, figAt n x p) :: fl n x (p - 1) a) = dig n a :: dstr n a
    rw [txt_cons, one_fig n x p (by omega) (by omega), ih (p - 1) (by omega) (by omega), show (p - x).toNat = a by omega]; rfl
/-- the text of a number that is not below 0 -/
def body (n : Nat) (x : Int) : List UInt8 :=
  if 0 ≤ x then dstr n (cnt n) ++ List.replicate x.toNat 48
  else dsl n (-x).toNat (max (cnt n) ((-x).toNat + 1) - (-x).toNat) ++ 46 :: dstr n (-x).toNat
def hi (n : Nat) (x : Int) : Int := max (x + cnt n - 1) 0
def lo (x : Int) : Int := min x 0
theorem txt_body (n : Nat) (x : Int) : txt (fl n x (hi n x) (hi n x - lo x + 1).toNat) = body n x := by
  have hc := cnt_pos n
  unfold body
  by_cases h : 0 ≤ x
  · rw [if_pos h]
    have e : (hi n x - lo x + 1).toNat = cnt n + x.toNat := by unfold hi lo; omega
    rw [e, fl_add]
    have e1 : txt (fl n x (hi n x) (cnt n)) = dsl n 0 (cnt n) := txt_ahead n x 0 (cnt n) _ (by unfold hi; omega) (by omega)
    have e2 : txt (fl n x (hi n x - (cnt n : Int)) x.toNat) = List.replicate x.toNat 48 := txt_noughts n x x.toNat _ (by unfold hi; omega) (by unfold hi; omega)
    have e3 := dstr_add n 0 (cnt n)
    simp only [Nat.add_zero, dstr, List.append_nil] at e3
    unfold txt at *
    rw [List.flatMap_append, e1, e2, ← e3]
  · rw [if_neg h]
    obtain ⟨k, hk⟩ : ∃ k : Nat, x = -((k : Int) + 1) := ⟨(-x - 1).toNat, by omega⟩
    have ek : (-x).toNat = k + 1 := by omega
    rw [ek]
    have e : (hi n x - lo x + 1).toNat = (max (cnt n) (k + 1 + 1) - (k + 1)) + (k + 1) := by unfold hi lo; omega
    rw [e, fl_add]
    have e1 : txt (fl n x (hi n x) (max (cnt n) (k + 1 + 1) - (k + 1))) = dsl n (k + 1) (max (cnt n) (k + 1 + 1) - (k + 1)) := txt_ahead n x (k + 1) _ _ (by unfold hi; omega) (by omega)
    have e2 : hi n x - ((max (cnt n) (k + 1 + 1) - (k + 1) : Nat) : Int) = -1 := by unfold hi; omega
    have e3 : txt (fl n x (-1) (k + 1)) = 46 :: dstr n (k + 1) := by
      show txt ((-1, figAt n x (-1)) :: fl n x (-1 - 1) k) = _
      rw [txt_cons, one_point n x (by omega), txt_behind n x k _ (by omega) (by omega), show (-1 - x).toNat = k by omega]; rfl
    unfold txt at *
    rw [List.flatMap_append, e1, e2, e3]
def text (m x : Int) : List UInt8 := (if m < 0 then [45] else []) ++ body m.natAbs x
theorem body_len (n : Nat) (x : Int) (h1 : -8 ≤ x) (h2 : x ≤ 8) : (body n x).length ≤ 40 := by
  have := cnt_le n
  unfold body; split
  · simp [dstr_len]; omega
  · simp [dstr_len, dsl_len]; omega
/-- the same, the figures as bytes -/
def fig8 (n : Nat) (x p : Int) : UInt8 := UInt8.ofNat (figAt n x p).toNat
theorem fig8_val (n : Nat) (x p : Int) : ((fig8 n x p).toNat : Int) = figAt n x p := by
  have := figAt_bd n x p
  unfold fig8; rw [UInt8.toNat_ofNat']; omega
def fl8 (n : Nat) (x p : Int) : Nat → List (Int × UInt8)
  | 0 => []
  | c + 1 => (p, fig8 n x p) :: fl8 n x (p - 1) c
theorem fl8_len (n : Nat) (x : Int) (c : Nat) : ∀ p, (fl8 n x p c).length = c := by induction c with
  | zero => intro p; rfl
  | succ c ih => intro p; simp [fl8, ih]
theorem fl8_snoc (n : Nat) (x : Int) (a : Nat) : ∀ p : Int, fl8 n x p (a + 1) = fl8 n x p a ++ [(p - a, fig8 n x (p - a))] := by
  induction a with
  | zero => intro p; simp [fl8]
  | succ a ih => intro p; show (p, fig8 n x p) :: fl8 n x (p - 1) (a + 1) = _; rw [ih, show p - 1 - (a : Int) = p - ((a + 1 : Nat) : Int) by omega]; rfl
def one8 (y : Int × UInt8) : List UInt8 := (if y.1 = -1 then [46] else []) ++ [y.2]
def txt8 (l : List (Int × UInt8)) : List UInt8 := l.flatMap one8
theorem txt8_snoc (l : List (Int × UInt8)) (y : Int × UInt8) : txt8 (l ++ [y]) = txt8 l ++ one8 y := by simp [txt8]
theorem txt8_eq (n : Nat) (x : Int) (c : Nat) : ∀ p, txt8 (fl8 n x p c) = txt (fl n x p c) := by
  induction c with
  | zero => intro p; rfl
  | succ c ih =>
    intro p
    show one8 (p, fig8 n x p) ++ txt8 (fl8 n x (p - 1) c) = one (p, figAt n x p) ++ txt (fl n x (p - 1) c)
    rw [ih]; rfl
theorem txt8_len (l : List (Int × UInt8)) : (txt8 l).length ≤ 2 * l.length := by
  induction l with
  | nil => simp [txt8]
  | cons y t ih =>
    show (one8 y ++ txt8 t).length ≤ _
    have : (one8 y).length ≤ 2 := by unfold one8; split <;> simp
    rw [List.length_append, List.length_cons]; omega
end Go.Proofs.Ytfgchdnpbbgmjaa.Tm
/- Contracts of the leaves of chapter 1: within, l1In, l1Big, DecOk of both sides, toDec, eqDec. -/
namespace Go.Proofs.Ytfgchdnpbbgmjaa
open Go.RowKit

theorem ret_bool {a b : Bool} (h : a = b) : Ending.returned (.bool a) = .returned (.bool b) := by rw [h]

set_option maxHeartbeats 400000 in
theorem iDecOk_any (m x : Int) (w : World) :
    Calls Try.prog 114 #[.agg #[.int .i64 m, .int .i64 x]] w fun e w' => e = .returned (.bool (Dm.ok m x)) ∧ Below w.heap.size w w' := by
  go_enter Try.func114, Try.ntmps114
  go_wp2
  all_goals
    go_ret
    exact ⟨ret_bool (by simp_all [Dm.ok]; try omega), (Below.refl _ _).alloc (Nat.le_refl _) _⟩

set_option maxHeartbeats 400000 in
theorem sDecOk_any (m x : Int) (w : World) :
    Calls Try.prog 99 #[.agg #[.int .i64 m, .int .i64 x]] w fun e w' => e = .returned (.bool (Dm.ok m x)) ∧ Below w.heap.size w w' := by
  go_enter Try.func99, Try.ntmps99
  go_wp2
  all_goals
    go_ret
    exact ⟨ret_bool (by simp_all [Dm.ok]; try omega), (Below.refl _ _).alloc (Nat.le_refl _) _⟩

end Go.Proofs.Ytfgchdnpbbgmjaa
/- Small facts on worlds. -/
namespace Go.Proofs.Ytfgchdnpbbgmjaa
open Go.RowKit
theorem bcell {W w1 : World} (hb : Below W.heap.size W w1) : (∀ b o, b < W.heap.size → w1.cell? ⟨b, o, none⟩ = W.cell? ⟨b, o, none⟩) ∧ (∀ b o, b < W.heap.size → w1.frozen? ⟨b, o, none⟩ = W.frozen? ⟨b, o, none⟩) :=
  ⟨fun b o h => hb.cell (p := ⟨b, o, none⟩) h, fun b o h => hb.frozen (p := ⟨b, o, none⟩) h⟩

/-- every cell that was there is as it was, and may be written as before: two rules that need no reckoning with blocks -/
theorem bsome {W w1 : World} (hb : Below W.heap.size W w1) : (∀ b o, (W.cell? ⟨b, o, none⟩).isSome = true → w1.cell? ⟨b, o, none⟩ = W.cell? ⟨b, o, none⟩) ∧ (∀ b o, (W.cell? ⟨b, o, none⟩).isSome = true → w1.frozen? ⟨b, o, none⟩ = W.frozen? ⟨b, o, none⟩) := by
  refine ⟨fun b o h => ?_, fun b o h => ?_⟩
  · obtain ⟨u, hu⟩ := Option.isSome_iff_exists.1 h
    exact hb.cell (p := ⟨b, o, none⟩) (World.block_lt_of_cell? W _ hu)
  · obtain ⟨u, hu⟩ := Option.isSome_iff_exists.1 h
    exact hb.frozen (p := ⟨b, o, none⟩) (World.block_lt_of_cell? W _ hu)
theorem cell_alloc_is (w : World) (b o : Nat) (x : Obj) (h : (w.cell? ⟨b, o, none⟩).isSome = true) : (w.alloc x).cell? ⟨b, o, none⟩ = w.cell? ⟨b, o, none⟩ :=
  (bsome ((Below.refl _ w).alloc (Nat.le_refl _) x)).1 b o h
theorem frozen_alloc_is (w : World) (b o : Nat) (x : Obj) (h : (w.cell? ⟨b, o, none⟩).isSome = true) : (w.alloc x).frozen? ⟨b, o, none⟩ = w.frozen? ⟨b, o, none⟩ :=
  (bsome ((Below.refl _ w).alloc (Nat.le_refl _) x)).2 b o h

end Go.Proofs.Ytfgchdnpbbgmjaa
/- Contracts: l1New, stripped, DecNew of both sides. -/
namespace Go.Proofs.Ytfgchdnpbbgmjaa
open Go.RowKit

/-- the two cells of a decimal that lies in block b, and that they may be written -/
def Two (w : World) (b : Nat) (m e : Int) : Prop :=
  w.cell? ⟨b, 0, none⟩ = some (.int .i64 m) ∧ w.cell? ⟨b, 1, none⟩ = some (.int .i64 e) ∧ w.frozen? ⟨b, 0, none⟩ = false ∧ w.frozen? ⟨b, 1, none⟩ = false
theorem Two.new (w : World) (m e : Int) (T : TypeId) : Two (w.alloc (.cells #[.int .i64 m, .int .i64 e] T)) w.heap.size m e := ⟨by simp, by simp, by simp, by simp⟩
theorem Two.below {w w' : World} {B b : Nat} {m e : Int} (h : Two w b m e) (hb : Below B w w') (hB : b < B) : Two w' b m e :=
  ⟨(hb.cell (p := ⟨b, 0, none⟩) hB).trans h.1, (hb.cell (p := ⟨b, 1, none⟩) hB).trans h.2.1, (hb.frozen (p := ⟨b, 0, none⟩) hB).trans h.2.2.1, (hb.frozen (p := ⟨b, 1, none⟩) hB).trans h.2.2.2⟩
theorem Two.alloc {w : World} {b : Nat} {m e : Int} (h : Two w b m e) (hb : b < w.heap.size) (o : Obj) : Two (w.alloc o) b m e :=
  h.below (((Below.refl w.heap.size w).alloc (Nat.le_refl _) o)) hb
/-- a decimal and a truth, as a call hands them back -/
abbrev dec3 (r : Int × Int × Bool) : Ending := .returned (.tuple #[.agg #[.int .i64 r.1, .int .i64 r.2.1], .bool r.2.2])

set_option maxHeartbeats 400000 in
theorem l1New_any (m x : Int) (w : World) (h1 : -1000000000000000000 ≤ m) (h2 : m ≤ 1000000000000000000) (h3 : -1000 ≤ x) (h4 : x ≤ 1000) :
    Calls Try.prog 94 #[.int .i64 m, .int .i64 x] w fun e w' => e = dec3 (Dm.norm m x) ∧ Below w.heap.size w w' := by
  by_cases h0 : m = 0
  · subst h0
    go_enter Try.func94, Try.ntmps94
    go_wp2_with fail
    exact bodyPost_ret (v := .tuple #[.agg #[.int .i64 0, .int .i64 0], .bool true]) (by simp [results, Try.results94, go_sem]) rfl ⟨rfl, (by (repeat' (first | assumption | exact Below.refl _ _ | refine Below.alloc ?_ ?_ _ | refine Below.setCell ?_ ?_ _ | refine Below.drew ?_ | refine below_drewN ?_ _)) <;> (first | omega | (simp <;> omega)))⟩
  · have hb0 : (m == 0) = false := by simp [h0]
    have S0 := Dm.Strip.start m x h0 h1 h2
    go_enter Try.func94, Try.ntmps94
    go_wp2_with fail
    go_loop [0, 1] (fun a b => ∃ (j : Nat) (m' e' : Int), a = .int .i64 m' ∧ b = .int .i64 e' ∧ Dm.Strip m x j m' e') (fun a _ => (intOf a).natAbs)
    case atStart => exact ⟨0, m, x, rfl, rfl, S0⟩
    case round =>
      obtain ⟨j, m', e', rfl, rfl, S⟩ := hrel
      have hbd := S.bound
      obtain ⟨hj, hm1, hm2⟩ := hbd
      have he := S.2.2.1
      have he1 : e' ≤ 1018 := by omega
      have he2 : -1000 ≤ e' := by omega
      have hne := S.1
      clear he S0
      by_cases hz : m'.tmod 10 = 0
      · have hzb : (m'.tmod 10 == 0) = true := by simp [hz]
        have S1 := S.step hz
        clear hz
        go_wp2_with fail
        go_round
        case rel => exact ⟨j + 1, _, _, rfl, rfl, S1⟩
        case measure => exact Dm.tdiv_lt m' hne
      · have hzb : (m'.tmod 10 == 0) = false := by simp [hz]
        have HZ : Hid (m'.tmod 10 ≠ 0) := hz
        clear hz
        go_wp2_with fail
        refine (sDecOk_any _ _ _).mono ?_
        rintro e w2 ⟨rfl, hb2⟩
        obtain ⟨hc2, hf2⟩ := bcell hb2
        have hz2 := hb2.size
        simp at hz2
        have c0 : w2.cell? ⟨w.heap.size, 0, none⟩ = some (.int .i64 0) := by rw [hc2 _ _ (by simp; omega)]; simp
        have c1 : w2.cell? ⟨w.heap.size, 1, none⟩ = some (.int .i64 0) := by rw [hc2 _ _ (by simp; omega)]; simp
        have hB2 : Below w.heap.size w w2 := Below.trans (by (repeat' (first | assumption | exact Below.refl _ _ | refine Below.alloc ?_ ?_ _ | refine Below.setCell ?_ ?_ _ | refine Below.drew ?_ | refine below_drewN ?_ _)) <;> (first | omega | (simp <;> omega))) (hb2.mono (by simp; omega))
        cases ho : Dm.ok m' e'
        · have hfin := S.norm_no h0 HZ.out ho
          have HF : Hid (Dm.norm m x = (0, 0, false)) := hfin
          clear hfin
          go_wp2_with fail
          exact bodyPost_ret (v := .tuple #[.agg #[.int .i64 0, .int .i64 0], .bool false]) (by simp [results, Try.results94, go_sem, c0, c1]) rfl ⟨by rw [HF.out], (by (repeat' (first | assumption | exact Below.refl _ _ | refine Below.alloc ?_ ?_ _ | refine Below.setCell ?_ ?_ _ | refine Below.drew ?_ | refine below_drewN ?_ _)) <;> (first | omega | (simp <;> omega)))⟩
        · have hfin := S.norm_ok h0 HZ.out ho
          have HF : Hid (Dm.norm m x = (m', e', true)) := hfin
          clear hfin
          go_wp2_with fail
          exact bodyPost_ret (v := .tuple #[.agg #[.int .i64 m', .int .i64 e'], .bool true]) (by simp [results, Try.results94, go_sem, c0, c1]) rfl ⟨by rw [HF.out], (by (repeat' (first | assumption | exact Below.refl _ _ | refine Below.alloc ?_ ?_ _ | refine Below.setCell ?_ ?_ _ | refine Below.drew ?_ | refine below_drewN ?_ _)) <;> (first | omega | (simp <;> omega)))⟩

end Go.Proofs.Ytfgchdnpbbgmjaa
/- Contracts: DecMul of both sides. -/
namespace Go.Proofs.Ytfgchdnpbbgmjaa
open Go.RowKit

/-- two decimals that came in, and the one that goes out, in three blocks in a row -/
def Three (w : World) (b : Nat) (m x n y p q : Int) : Prop := Two w b m x ∧ Two w (b + 1) n y ∧ Two w (b + 2) p q ∧ b + 2 < w.heap.size
theorem Three.new (w : World) (m x n y p q : Int) (T U V : TypeId) : Three (((w.alloc (.cells #[.int .i64 m, .int .i64 x] T)).alloc (.cells #[.int .i64 n, .int .i64 y] U)).alloc (.cells #[.int .i64 p, .int .i64 q] V)) w.heap.size m x n y p q := by
  have h1 := Two.new w m x T
  have h2 := Two.new (w.alloc (.cells #[.int .i64 m, .int .i64 x] T)) n y U
  have h3 := Two.new ((w.alloc (.cells #[.int .i64 m, .int .i64 x] T)).alloc (.cells #[.int .i64 n, .int .i64 y] U)) p q V
  rw [World.size_alloc] at h2 h3
  rw [World.size_alloc] at h3
  exact ⟨(h1.alloc (by simp) _).alloc (by simp; omega) _, h2.alloc (by simp) _, h3, by simp⟩
theorem Three.below {w w' : World} {b : Nat} {m x n y p q : Int} (h : Three w b m x n y p q) (hb : Below w.heap.size w w') : Three w' b m x n y p q := by
  obtain ⟨h1, h2, h3, h4⟩ := h
  have := hb.size
  exact ⟨h1.below hb (by omega), h2.below hb (by omega), h3.below hb (by omega), by omega⟩
end Go.Proofs.Ytfgchdnpbbgmjaa
/- Contracts: l1Least, l1Up, tenTo, manAt, l1Add, DecAdd of both sides. -/
namespace Go.Proofs.Ytfgchdnpbbgmjaa
open Go.RowKit

theorem ret_int {k : IntKind} {a b : Int} (h : a = b) : Ending.returned (.int k a) = .returned (.int k b) := by rw [h]
set_option maxHeartbeats 400000 in
theorem tenTo_any (p : Int) (w : World) (h0 : 0 ≤ p) (h1 : p ≤ 18) :
    Calls Try.prog 136 #[.int .i64 p] w fun e w' => e = .returned (.int .i64 (Dm.p10 p)) ∧ w' = w := by
  go_enter Try.func136, Try.ntmps136
  go_wp2
  go_loop [3, 5] (fun t i => ∃ k : Int, 0 ≤ k ∧ k ≤ p ∧ i = .int .i64 k ∧ t = .int .i64 (Dm.p10 k)) (fun _ i => (p - intOf i).toNat)
  case atStart => exact ⟨0, by omega, by omega, rfl, rfl⟩
  case round =>
    obtain ⟨k, hk0, hk1, rfl, rfl⟩ := hrel
    by_cases hlt : k < p
    · have hp := Dm.p10_pos k
      have hb := Dm.p10_mono (j := k) (k := 17) (by omega)
      have hb2 : Dm.p10 17 = 100000000000000000 := rfl
      rw [hb2] at hb
      clear hb2
      have HS : Hid (Dm.p10 (k + 1) = Dm.p10 k * 10) := Dm.p10_succ k hk0
      go_wp2
      go_round
      case rel => exact ⟨k + 1, by omega, by omega, by go_num, by rw [HS.out]⟩
      case measure => simp [intOf]; omega
    · have : k = p := by omega
      subst this
      go_wp2
      go_ret
      exact ⟨rfl, rfl⟩

end Go.Proofs.Ytfgchdnpbbgmjaa
/- Contracts: l1Add, DecAdd of both sides. -/
namespace Go.Proofs.Ytfgchdnpbbgmjaa
open Go.RowKit

theorem hideIt {p : Prop} (h : p) : Hid p := h
end Go.Proofs.Ytfgchdnpbbgmjaa
/- What is held of the world while two decimals that lie in memory are handed on to calls, in whatever order. -/
namespace Go.Proofs.Ytfgchdnpbbgmjaa
open Go.RowKit

/-- two decimals lie in blocks b and d, and nothing that was there in W0 has turned -/
def Held (W0 : World) (b d : Nat) (m x n y : Int) (w' : World) : Prop :=
  w'.cell? ⟨b, 0, none⟩ = some (.int .i64 m) ∧ w'.cell? ⟨b, 1, none⟩ = some (.int .i64 x) ∧ w'.cell? ⟨d, 0, none⟩ = some (.int .i64 n) ∧ w'.cell? ⟨d, 1, none⟩ = some (.int .i64 y) ∧ Below W0.heap.size W0 w'
theorem lt_of_cell {W : World} {b o : Nat} {v : Value} (h : W.cell? ⟨b, o, none⟩ = some v) : b < W.heap.size := World.block_lt_of_cell? W _ h
theorem Held.below {W0 W w1 : World} {b d : Nat} {m x n y : Int} (h : Held W0 b d m x n y W) (hb : Below W.heap.size W w1) : Held W0 b d m x n y w1 := by
  obtain ⟨h1, h2, h3, h4, h6⟩ := h
  have := hb.size
  have := h6.size
  have b0 := lt_of_cell h1
  have d0 := lt_of_cell h3
  exact ⟨(hb.cell (p := ⟨b, 0, none⟩) b0).trans h1, (hb.cell (p := ⟨b, 1, none⟩) b0).trans h2, (hb.cell (p := ⟨d, 0, none⟩) d0).trans h3, (hb.cell (p := ⟨d, 1, none⟩) d0).trans h4, h6.trans (hb.mono (by omega))⟩
theorem Held.alloc {W0 W : World} {b d : Nat} {m x n y : Int} (h : Held W0 b d m x n y W) (o : Obj) : Held W0 b d m x n y (W.alloc o) := h.below ((Below.refl _ _).alloc (Nat.le_refl _) o)
theorem Held.drew {W0 W : World} {b d : Nat} {m x n y : Int} (h : Held W0 b d m x n y W) : Held W0 b d m x n y W.drew := h.below ((Below.refl _ _).drew)
theorem Held.start {W : World} {b d : Nat} {m x n y : Int} (h1 : W.cell? ⟨b, 0, none⟩ = some (.int .i64 m)) (h2 : W.cell? ⟨b, 1, none⟩ = some (.int .i64 x)) (h3 : W.cell? ⟨d, 0, none⟩ = some (.int .i64 n)) (h4 : W.cell? ⟨d, 1, none⟩ = some (.int .i64 y)) : Held W b d m x n y W :=
  ⟨h1, h2, h3, h4, Below.refl _ _⟩
theorem Held.set {W0 W : World} {b d : Nat} {m x n y : Int} (h : Held W0 b d m x n y W) (hb : b < W0.heap.size) (hd : d < W0.heap.size) {k : Nat} (hk : W0.heap.size ≤ k) (u v : Value) : Held W0 b d m x n y ((W.setCell ⟨k, 0, none⟩ u).setCell ⟨k, 1, none⟩ v) := by
  have q : Below W0.heap.size W ((W.setCell ⟨k, 0, none⟩ u).setCell ⟨k, 1, none⟩ v) := ((Below.refl _ W).setCell (p := ⟨k, 0, none⟩) hk u).setCell (p := ⟨k, 1, none⟩) hk v
  obtain ⟨h1, h2, h3, h4, h6⟩ := h
  exact ⟨(q.cell (p := ⟨b, 0, none⟩) hb).trans h1, (q.cell (p := ⟨b, 1, none⟩) hb).trans h2, (q.cell (p := ⟨d, 0, none⟩) hd).trans h3, (q.cell (p := ⟨d, 1, none⟩) hd).trans h4, h6.trans q⟩

/-- the same, but of blocks below k alone it is said that they have not turned -/
def HeldK (k : Nat) (W0 : World) (b d : Nat) (m x n y : Int) (w' : World) : Prop :=
  w'.cell? ⟨b, 0, none⟩ = some (.int .i64 m) ∧ w'.cell? ⟨b, 1, none⟩ = some (.int .i64 x) ∧ w'.cell? ⟨d, 0, none⟩ = some (.int .i64 n) ∧ w'.cell? ⟨d, 1, none⟩ = some (.int .i64 y) ∧ k ≤ w'.heap.size ∧ Below k W0 w'
theorem HeldK.below {k : Nat} {W0 W w1 : World} {b d : Nat} {m x n y : Int} (h : HeldK k W0 b d m x n y W) (hb : Below W.heap.size W w1) : HeldK k W0 b d m x n y w1 := by
  obtain ⟨h1, h2, h3, h4, h5, h6⟩ := h
  have := hb.size
  have b0 := lt_of_cell h1
  have d0 := lt_of_cell h3
  exact ⟨(hb.cell (p := ⟨b, 0, none⟩) b0).trans h1, (hb.cell (p := ⟨b, 1, none⟩) b0).trans h2, (hb.cell (p := ⟨d, 0, none⟩) d0).trans h3, (hb.cell (p := ⟨d, 1, none⟩) d0).trans h4, by omega, h6.trans (hb.mono (by omega))⟩
theorem HeldK.drew {k : Nat} {W0 W : World} {b d : Nat} {m x n y : Int} (h : HeldK k W0 b d m x n y W) : HeldK k W0 b d m x n y W.drew := h.below ((Below.refl _ _).drew)
theorem HeldK.start {k : Nat} {W : World} {b d : Nat} {m x n y : Int} (h1 : W.cell? ⟨b, 0, none⟩ = some (.int .i64 m)) (h2 : W.cell? ⟨b, 1, none⟩ = some (.int .i64 x)) (h3 : W.cell? ⟨d, 0, none⟩ = some (.int .i64 n)) (h4 : W.cell? ⟨d, 1, none⟩ = some (.int .i64 y)) (h5 : k ≤ W.heap.size) : HeldK k W b d m x n y W :=
  ⟨h1, h2, h3, h4, h5, Below.refl _ _⟩
theorem HeldK.set {k : Nat} {W0 W : World} {b d : Nat} {m x n y : Int} (h : HeldK k W0 b d m x n y W) (hb : b < k) (hd : d < k) {j : Nat} (hk : k ≤ j) (u v : Value) : HeldK k W0 b d m x n y ((W.setCell ⟨j, 0, none⟩ u).setCell ⟨j, 1, none⟩ v) := by
  have q : Below k W ((W.setCell ⟨j, 0, none⟩ u).setCell ⟨j, 1, none⟩ v) := ((Below.refl _ W).setCell (p := ⟨j, 0, none⟩) hk u).setCell (p := ⟨j, 1, none⟩) hk v
  obtain ⟨h1, h2, h3, h4, h5, h6⟩ := h
  have := q.size
  exact ⟨(q.cell (p := ⟨b, 0, none⟩) hb).trans h1, (q.cell (p := ⟨b, 1, none⟩) hb).trans h2, (q.cell (p := ⟨d, 0, none⟩) hd).trans h3, (q.cell (p := ⟨d, 1, none⟩) hd).trans h4, by omega, h6.trans q⟩
end Go.Proofs.Ytfgchdnpbbgmjaa
/- Contracts: l1Neg, opposite, DecSub of both sides. -/
namespace Go.Proofs.Ytfgchdnpbbgmjaa
open Go.RowKit
attribute [local go_sem] cell_alloc_is frozen_alloc_is
set_option maxHeartbeats 400000 in
theorem l1Neg_any (m x : Int) (w : World) (h1 : -9223372036854775807 ≤ m) (h2 : m ≤ 9223372036854775807) :
    Calls Try.prog 101 #[.agg #[.int .i64 m, .int .i64 x]] w fun e w' => e = .returned (.agg #[.int .i64 (-m), .int .i64 x]) ∧ Below w.heap.size w w' := by
  go_enter Try.func101, Try.ntmps101
  go_wp2
  exact bodyPost_ret (v := .agg #[.int .i64 (-m), .int .i64 x]) (by simp [results, Try.results101, go_sem]) rfl ⟨rfl, (by (repeat' (first | assumption | exact Below.refl _ _ | refine Below.alloc ?_ ?_ _ | refine Below.setCell ?_ ?_ _ | refine Below.drew ?_ | refine below_drewN ?_ _)) <;> (first | omega | (simp <;> omega)))⟩

end Go.Proofs.Ytfgchdnpbbgmjaa
/- Contracts: l1Dec (the decimal text of a whole number). -/
namespace Go.Proofs.Ytfgchdnpbbgmjaa
open Go.RowKit
attribute [local go_sem] cell_alloc_is frozen_alloc_is

theorem conv_one (W : World) (b : Nat) (c : Int) (h0 : 0 ≤ c) (h1 : c ≤ 255) (hc : W.cell? ⟨b, 0, none⟩ = some (.int .u8 c)) :
    (convert 22 9 (.slice (some ⟨b, 0, none⟩) 1 1)).run Try.prog W = .ok (.string ⟨#[UInt8.ofNat c.toNat]⟩) W := by
  have e : (UInt8.ofNat c.toNat).toNat = c.toNat := by rw [UInt8.toNat_ofNat']; omega
  exact run_convert_bytes_back (P := Try.prog) W 22 9 5 ⟨b, 0, none⟩ 1 [UInt8.ofNat c.toNat] Try.underlying22 Try.underlying5 Try.underlying9 (by
    intro j hj
    have hj0 : j = 0 := by simp at hj; omega
    subst hj0
    simp only [List.getElem_cons_zero, e]
    rw [show ((c.toNat : Nat) : Int) = c from by omega]
    exact hc)

set_option maxHeartbeats 1000000 in
theorem l1Dec_small (k : Nat) (n : Int) (w : World) (h1 : 0 ≤ n) (hn : n < 10) :
    Calls Try.prog 102 #[.int .i64 n] w fun e w' => e = .returned (.string ⟨(Dm.digs (k + 1) n.toNat).toArray⟩) ∧ Below w.heap.size w w' := by
  have hcv := fun W b => conv_one W b (48 + n) (by omega) (by omega)
  have HF : Hid (Dm.digs (k + 1) n.toNat = [UInt8.ofNat (48 + n).toNat]) := by
    unfold Hid; rw [Dm.digs, if_pos (by omega), show (48 + n).toNat = 48 + n.toNat from by omega]
  go_enter Try.func102, Try.ntmps102
  go_wp2_with fail
  go_ret
  exact ⟨by rw [HF.out]; rfl, (by (repeat' (first | assumption | exact Below.refl _ _ | refine Below.alloc ?_ ?_ _ | refine Below.setCell ?_ ?_ _ | refine Below.drew ?_ | refine below_drewN ?_ _)) <;> (first | omega | (simp <;> omega)))⟩

set_option maxHeartbeats 1000000 in
theorem l1Dec_any (k : Nat) : ∀ (n : Int) (w : World), k ≤ 30 → 0 ≤ n → n < 10 ^ (k + 1) → n ≤ 9223372036854775807 →
    Calls Try.prog 102 #[.int .i64 n] w fun e w' => e = .returned (.string ⟨(Dm.digs (k + 1) n.toNat).toArray⟩) ∧ Below w.heap.size w w' := by
  induction k with
  | zero => intro n w _ h1 h2 h3; exact l1Dec_small 0 n w h1 (by simpa using h2)
  | succ k ih =>
    intro n w hk h1 h2 h3
    by_cases hn : n < 10
    · exact l1Dec_small _ n w h1 hn
    · have hcv := fun W b => conv_one W b (48 + n % 10) (by omega) (by omega)
      have h10 : n / 10 < 10 ^ (k + 1) := by rw [Int.pow_succ] at h2; omega
      obtain ⟨s, hs⟩ : ∃ s : ByteArray, s = ⟨(Dm.digs (k + 1) (n / 10).toNat).toArray⟩ := ⟨_, rfl⟩
      have IH : Hid (∀ w : World, Calls Try.prog 102 #[.int .i64 (n / 10)] w fun e w' => e = .returned (.string s) ∧ Below w.heap.size w w') := fun w => by rw [hs]; exact ih (n / 10) w (by omega) (by omega) h10 (by omega)
      have HF : Hid ((⟨(Dm.digs (k + 1 + 1) n.toNat).toArray⟩ : ByteArray) = s ++ ⟨#[UInt8.ofNat (48 + n % 10).toNat]⟩) := by
        unfold Hid; rw [hs, Dm.digs, if_neg (by omega), show (48 + n % 10).toNat = 48 + n.toNat % 10 from by omega, show (n / 10).toNat = n.toNat / 10 from by omega]; exact ByteArray.ext (by simp)
      have hsz : s.size ≤ 40 := by rw [hs]; have := Dm.digs_len (k + 1) (n / 10).toNat; simp only [ByteArray.size, List.size_toArray]; omega
      clear h2 ih h10 hs
      rw [HF.out]
      clear HF
      have hw1 : IntKind.i64.wrap (n.tdiv 10) = n / 10 := by rw [Int.tdiv_eq_ediv_of_nonneg h1, IntKind.wrap_i64]; omega
      have hw2 : n.tmod 10 = n % 10 := Int.tmod_eq_emod_of_nonneg h1
      have hw3 : IntKind.i64.wrap (48 + n % 10) = 48 + n % 10 := by rw [IntKind.wrap_i64]; omega
      have hw4 : IntKind.u8.wrap (48 + n % 10) = 48 + n % 10 := by rw [IntKind.wrap_u8]; omega
      go_enter Try.func102, Try.ntmps102
      go_wp2_with fail
      go_region_with (go_at_call 102; refine (IH.out _).mono ?_; rintro e w1 ⟨rfl, hb1⟩; obtain ⟨hc, hf⟩ := bsome hb1)
      all_goals
        go_wp2
        go_ret
        refine ⟨rfl, ?_⟩
        (repeat' (first | exact Below.refl _ _ | refine Below.alloc ?_ ?_ _ | refine Below.drew ?_ | refine Below.trans ?_ (hb1.mono ?_))) <;> (first | omega | (simp; done) | (have := hb1.size; simp at this; omega) | (simp; omega))
end Go.Proofs.Ytfgchdnpbbgmjaa
/- Contracts: the text of a decimal as the specification makes it. -/
namespace Go.Proofs.Ytfgchdnpbbgmjaa
open Go.RowKit
attribute [local go_sem] cell_alloc_is frozen_alloc_is

theorem tArr_size (l : List UInt8) : (⟨l.toArray⟩ : ByteArray).size = l.length := by show l.toArray.size = _; simp
theorem tArr_append (a b : List UInt8) : (⟨a.toArray⟩ : ByteArray) ++ ⟨b.toArray⟩ = ⟨(a ++ b).toArray⟩ := by
  have : ∀ x y : ByteArray, x.data.toList = y.data.toList → x = y := by intro x y h; cases x; cases y; simpa using h
  apply this; simp [ByteArray.data_append]
/-- so many noughts -/
abbrev noughts (a : Nat) : ByteArray := ⟨(List.replicate a (48 : UInt8)).toArray⟩
theorem noughts_add (a b : Nat) : noughts a ++ noughts b = noughts (a + b) := by rw [tArr_append, List.replicate_append_replicate]
theorem noughts_size (a : Nat) : (noughts a).size = a := by rw [tArr_size, List.length_replicate]

set_option maxHeartbeats 1000000 in
theorem l1Many_any (k : Nat) (w : World) (hk : k ≤ 100) :
    Calls Try.prog 103 #[.string ⟨#[48]⟩, .int .i64 k] w fun e w' => e = .returned (.string (noughts k)) ∧ w' = w := by
  go_enter Try.func103, Try.ntmps103
  go_wp2_with fail
  go_loop [0, 1, 5] (fun s n o => ∃ a b c : Nat, s = .string (noughts b) ∧ n = .int .i64 c ∧ o = .string (noughts a) ∧ a + b * c = k ∧ a ≤ 1000 ∧ b * (c + 1) ≤ 2000 ∧ c ≤ 100) (fun _ n _ => (intOf n).toNat)
  case atStart => exact ⟨0, 1, k, rfl, rfl, rfl, by omega, by omega, by omega, hk⟩
  case round =>
    obtain ⟨a, b, c, rfl, rfl, rfl, h1, h2, h3, h4⟩ := hrel
    have sa := noughts_size a
    have sb := noughts_size b
    by_cases hc : 0 < c
    · have hb : b ≤ 2000 := by
        have : b * 1 ≤ b * (c + 1) := Nat.mul_le_mul_left _ (by omega)
        omega
      have hbc : b * c ≤ k := by omega
      have hb6 : b * 1 ≤ b * c := Nat.mul_le_mul_left _ (by omega)
      have HAB : Hid (noughts a ++ noughts b = noughts (a + b)) := noughts_add a b
      have HBB : Hid (noughts b ++ noughts b = noughts (b + b)) := noughts_add b b
      have hc' : (0 : Int) < (c : Int) := by omega
      have hdm : c = 2 * (c / 2) + c % 2 := by omega
      have e1 : b * c = (b + b) * (c / 2) + b * (c % 2) := by
        conv => lhs; rw [hdm]
        rw [Nat.mul_add, ← Nat.mul_assoc, Nat.mul_comm b 2, Nat.two_mul]
      have e2 : (b + b) * (c / 2 + 1) ≤ 2000 := by
        have : (b + b) * (c / 2 + 1) = (b + b) * (c / 2) + (b + b) := by rw [Nat.mul_add, Nat.mul_one]
        have h5 : (b + b) * (c / 2) ≤ b * c := by omega
        have h6 : b * 1 ≤ b * c := Nat.mul_le_mul_left _ (by omega)
        omega
      have HE : Hid (b * c = (b + b) * (c / 2) + b * (c % 2)) := e1
      clear e1 hdm
      by_cases ho : c % 2 = 1
      · have ho' : ((c : Int) % 2 == 1) = true := by simp; omega
        go_wp2_with fail
        go_round
        case rel =>
          refine ⟨a + b, b + b, c / 2, by rw [HBB.out], by go_num, by rw [HAB.out], ?_, by omega, e2, by omega⟩
          have := HE.out; rw [ho, Nat.mul_one] at this; omega
        case measure => simp [intOf]; omega
      · have ho' : ((c : Int) % 2 == 1) = false := by simp; omega
        go_wp2_with fail
        go_round
        case rel =>
          refine ⟨a, b + b, c / 2, by rw [HBB.out], by go_num, rfl, ?_, h2, e2, by omega⟩
          have := HE.out; rw [show c % 2 = 0 by omega, Nat.mul_zero] at this; omega
        case measure => simp [intOf]; omega
    · have hc0 : c = 0 := by omega
      subst hc0
      have : a = k := by omega
      subst this
      go_wp2_with fail
      go_ret
      exact ⟨rfl, rfl⟩

set_option maxHeartbeats 2000000 in
theorem l1Text_pos (n : Nat) (x : Int) (w : World) (hn : n ≤ 99999999) (x1 : -8 ≤ x) (x2 : x ≤ 8) :
    Calls Try.prog 82 #[.agg #[.int .i64 n, .int .i64 x]] w fun e w' => e = .returned (.string ⟨(Tm.body n x).toArray⟩) ∧ Below w.heap.size w w' := by
  have hdig : Dm.digs 9 n = Tm.dstr n (Tm.cnt n) := Tm.digs_dstr 9 n
  have hcl := Tm.cnt_le n
  have L : ∀ w : World, Calls Try.prog 102 #[.int .i64 n] w fun e w' => e = .returned (.string ⟨(Tm.dstr n (Tm.cnt n)).toArray⟩) ∧ Below w.heap.size w w' := by
    intro w
    have := l1Dec_any 8 (n : Int) w (by omega) (by omega) (by omega) (by omega)
    rw [Int.toNat_natCast] at this
    rw [← hdig]; exact this
  clear hdig
  have hn0 : (0 : Int) ≤ (n : Int) := by omega
  by_cases h : 0 ≤ x
  · obtain ⟨k, rfl⟩ := Int.eq_ofNat_of_zero_le h
    have HF : Hid (Tm.body n k = Tm.dstr n (Tm.cnt n) ++ List.replicate k 48) := by unfold Hid; rw [Tm.body, if_pos h, Int.toNat_natCast]
    go_enter Try.func82, Try.ntmps82
    go_wp2_with fail
    refine (L _).mono ?_
    rintro e w1 ⟨rfl, hb1⟩
    obtain ⟨c0, c1, f0, f1⟩ := (Two.new w (n : Int) (k : Int) 24).below hb1 (by simp)
    have hB1 : Below w.heap.size w w1 := Below.trans (by (repeat' (first | assumption | exact Below.refl _ _ | refine Below.alloc ?_ ?_ _ | refine Below.setCell ?_ ?_ _ | refine Below.drew ?_ | refine below_drewN ?_ _)) <;> (first | omega | (simp <;> omega))) (hb1.mono (by simp))
    clear hb1
    have s1 := tArr_size (Tm.dstr n (Tm.cnt n))
    rw [Tm.dstr_len] at s1
    have s2 := noughts_size k
    have HA : Hid ((⟨(Tm.dstr n (Tm.cnt n)).toArray⟩ : ByteArray) ++ noughts k = ⟨(Tm.body n k).toArray⟩) := by unfold Hid; rw [HF.out, tArr_append]
    generalize (⟨(Tm.dstr n (Tm.cnt n)).toArray⟩ : ByteArray) = D at *
    go_wp2_with fail
    refine (l1Many_any k _ (by omega)).mono ?_
    rintro e w2 ⟨rfl, hw⟩
    subst w2
    generalize noughts k = Z at *
    go_wp2_with fail
    go_ret
    exact ⟨by rw [HA.out]; rfl, hB1⟩
  · obtain ⟨k, rfl⟩ : ∃ k : Nat, x = -(k : Int) := ⟨(-x).toNat, by omega⟩
    have HF : Hid (Tm.body n (-(k : Int)) = Tm.dsl n k (max (Tm.cnt n) (k + 1) - k) ++ 46 :: Tm.dstr n k) := by unfold Hid; rw [Tm.body, if_neg h, Int.neg_neg, Int.toNat_natCast]
    have hlt := Tm.lt_cnt n hn
    go_enter Try.func82, Try.ntmps82
    go_wp2_with fail
    refine (L _).mono ?_
    rintro e w1 ⟨rfl, hb1⟩
    obtain ⟨c0, c1, f0, f1⟩ := (Two.new w (n : Int) (-(k : Int)) 24).below hb1 (by simp)
    have hB1 : Below w.heap.size w w1 := Below.trans (by (repeat' (first | assumption | exact Below.refl _ _ | refine Below.alloc ?_ ?_ _ | refine Below.setCell ?_ ?_ _ | refine Below.drew ?_ | refine below_drewN ?_ _)) <;> (first | omega | (simp <;> omega))) (hb1.mono (by simp))
    clear hb1
    go_wp2_with fail
    go_loop [3] (fun s => ∃ c : Nat, s = .string ⟨(Tm.dstr n c).toArray⟩ ∧ c ≤ 30 ∧ n < 10 ^ c ∧ max c (k + 1) = max (Tm.cnt n) (k + 1)) (fun s => 40 - (match s with | .string b => b.size | _ => 0))
    case atStart => exact ⟨Tm.cnt n, rfl, by omega, hlt, rfl⟩
    case round =>
      obtain ⟨c, rfl, hc1, hc2, hc3⟩ := hrel
      have s1 := tArr_size (Tm.dstr n c)
      rw [Tm.dstr_len] at s1
      by_cases hck : c ≤ k
      · have HZ : Hid ((⟨#[48]⟩ : ByteArray) ++ ⟨(Tm.dstr n c).toArray⟩ = ⟨(Tm.dstr n (c + 1)).toArray⟩) := by
          unfold Hid
          rw [show (⟨#[48]⟩ : ByteArray) = ⟨[48].toArray⟩ from rfl, tArr_append]
          show _ = (⟨(Tm.dig n c :: Tm.dstr n c).toArray⟩ : ByteArray)
          rw [Tm.dig_none hc2]; rfl
        have HP : Hid (n < 10 ^ (c + 1)) := by unfold Hid; rw [Nat.pow_succ]; omega
        have hS := tArr_size (Tm.dstr n (c + 1))
        rw [Tm.dstr_len] at hS
        have HSS : Hid ((⟨(Tm.dstr n (c + 1)).toArray⟩ : ByteArray).size = c + 1) := hS
        clear hc2 hS
        have hck' : (c : Int) ≤ (k : Int) := by omega
        go_wp2_with fail
        go_round
        case rel => exact ⟨c + 1, by rw [HZ.out], by omega, HP.out, by omega⟩
        case measure => rw [HZ.out]; simp only [HSS.out, s1]; omega
      · have hck' : ¬ (c : Int) ≤ (k : Int) := by omega
        have hmc : max (Tm.cnt n) (k + 1) = c := by omega
        obtain ⟨j, hj⟩ : ∃ j : Nat, c = j + k := ⟨c - k, by omega⟩
        have q1 : (c : Int) + -(k : Int) = (j : Int) := by omega
        have q2 : (j : Int) ≤ (c : Int) := by omega
        have q3 : (0 : Int) ≤ (j : Int) := by omega
        have q4 : IntKind.i64.wrap ((c : Int) + -(k : Int)) = (j : Int) := by rw [q1, IntKind.wrap_i64]; omega
        have hD : (Tm.dstr n c) = Tm.dsl n k j ++ Tm.dstr n k := by rw [hj]; exact Tm.dstr_add n k j
        have X1 : Hid (((⟨(Tm.dstr n c).toArray⟩ : ByteArray).extract 0 j) = ⟨(Tm.dsl n k j).toArray⟩) := by
          unfold Hid
          apply ByteArray.ext
          apply Array.toList_inj.1
          rw [hD]; simp [ByteArray.data_extract]
          rw [List.take_left' (Tm.dsl_len n k j)]
        have X2 : Hid (((⟨(Tm.dstr n c).toArray⟩ : ByteArray).extract j c) = ⟨(Tm.dstr n k).toArray⟩) := by
          unfold Hid
          apply ByteArray.ext
          apply Array.toList_inj.1
          rw [hD]; simp [ByteArray.data_extract]
          rw [List.drop_left' (Tm.dsl_len n k j), List.take_of_length_le (by rw [Tm.dstr_len]; omega)]
        have z1 : ((⟨(Tm.dstr n c).toArray⟩ : ByteArray).extract 0 j).size = j := by rw [X1.out, tArr_size, Tm.dsl_len]
        have z2 : ((⟨(Tm.dstr n c).toArray⟩ : ByteArray).extract j c).size = k := by rw [X2.out, tArr_size, Tm.dstr_len]
        have HJ : Hid (max (Tm.cnt n) (k + 1) - k = j) := by unfold Hid; omega
        have HC : Hid (c = j + k) := hj
        clear hD hj hc3 hmc q1 hc2 hlt
        go_wp2_with fail
        go_quiet (fail)
        go_wp2_with fail
        go_ret
        refine ⟨?_, below_drewN hB1 _⟩
        show Ending.returned (Value.string (((⟨(Tm.dstr n c).toArray⟩ : ByteArray).extract 0 j) ++ ⟨#[46]⟩ ++ ((⟨(Tm.dstr n c).toArray⟩ : ByteArray).extract j c))) = _
        rw [X1.out, X2.out, show (⟨#[46]⟩ : ByteArray) = ⟨[46].toArray⟩ from rfl, tArr_append, tArr_append, HF.out, HJ.out, List.append_assoc]; rfl

set_option maxHeartbeats 1000000 in
theorem l1Text_any (m x : Int) (w : World) (m1 : -99999999 ≤ m) (m2 : m ≤ 99999999) (x1 : -8 ≤ x) (x2 : x ≤ 8) :
    Calls Try.prog 82 #[.agg #[.int .i64 m, .int .i64 x]] w fun e w' => e = .returned (.string ⟨(Tm.text m x).toArray⟩) ∧ Below w.heap.size w w' := by
  by_cases h : m < 0
  · obtain ⟨n, hn⟩ : ∃ n : Nat, n = m.natAbs := ⟨_, rfl⟩
    have hmn : -m = (n : Int) := by omega
    have HT : Hid (Tm.text m x = [45] ++ Tm.body n x) := by unfold Hid; rw [Tm.text, if_pos h, hn]
    have P : ∀ w : World, Calls Try.prog 82 #[.agg #[.int .i64 (-m), .int .i64 x]] w fun e w' => e = .returned (.string ⟨(Tm.body n x).toArray⟩) ∧ Below w.heap.size w w' := by
      intro w; rw [hmn]; exact l1Text_pos n x w (by omega) x1 x2
    clear hmn hn
    have hbl := Tm.body_len n x x1 x2
    have hsz := tArr_size (Tm.body n x)
    go_enter Try.func82, Try.ntmps82
    go_wp2_with fail
    refine (l1Neg_any _ _ _ (by omega) (by omega)).mono ?_
    rintro e w1 ⟨rfl, hb1⟩
    have hB1 : Below w.heap.size w w1 := Below.trans (by (repeat' (first | assumption | exact Below.refl _ _ | refine Below.alloc ?_ ?_ _ | refine Below.setCell ?_ ?_ _ | refine Below.drew ?_ | refine below_drewN ?_ _)) <;> (first | omega | (simp <;> omega))) (hb1.mono (by simp))
    clear hb1
    go_wp2_with fail
    refine (P _).mono ?_
    rintro e w2 ⟨rfl, hb2⟩
    have hB2 : Below w.heap.size w w2 := hB1.trans (hb2.mono hB1.size)
    have HA : Hid ((⟨#[45]⟩ : ByteArray) ++ ⟨(Tm.body n x).toArray⟩ = ⟨(Tm.text m x).toArray⟩) := by
      unfold Hid; rw [show (⟨#[45]⟩ : ByteArray) = ⟨[45].toArray⟩ from rfl, tArr_append, HT.out]
    generalize (⟨(Tm.body n x).toArray⟩ : ByteArray) = D at *
    go_wp2_with fail
    go_ret
    exact ⟨by rw [← HA.out]; rfl, hB2⟩
  · obtain ⟨n, rfl⟩ := Int.eq_ofNat_of_zero_le (show 0 ≤ m by omega)
    have e : Tm.text (n : Int) x = Tm.body n x := by rw [Tm.text, if_neg h]; rfl
    rw [e]
    exact l1Text_pos n x w (by omega) x1 x2

/-- the text of a decimal; empty, if it is not in its form -/
def textOf (m x : Int) : List UInt8 := if Dm.ok m x = true then Tm.text m x else []
end Go.Proofs.Ytfgchdnpbbgmjaa
