/- Plain mathematics: the text of a decimal. -/
import Derived.Test.YtldlfmehplemiaaDm4
namespace Go.Proofs.Ytldlfmehplemiaa.Tm
def dig (n j : Nat) : UInt8 := UInt8.ofNat (48 + n / 10 ^ j % 10)
/-- the last c figures of a whole number, the greatest first -/
def dstr (n : Nat) : Nat → List UInt8
  | 0 => []
  | c + 1 => dig n c :: dstr n c
/-- a figures, those ahead of the last b -/
def dsl (n b : Nat) : Nat → List UInt8
  | 0 => []
  | a + 1 => dig n (a + b) :: dsl n b a
theorem dstr_len (n c : Nat) : (dstr n c).length = c := by induction c with
  | zero => rfl
  | succ c ih => simp [dstr, ih]
theorem dsl_len (n b a : Nat) : (dsl n b a).length = a := by induction a with
  | zero => rfl
  | succ a ih => simp [dsl, ih]
theorem dstr_add (n b a : Nat) : dstr n (a + b) = dsl n b a ++ dstr n b := by induction a with
  | zero => simp [dsl]
  | succ a ih => rw [Nat.succ_add]; show dig n (a + b) :: dstr n (a + b) = _; rw [ih]; rfl
theorem dig_succ (n c : Nat) : dig n (c + 1) = dig (n / 10) c := by unfold dig; rw [Nat.pow_succ, Nat.mul_comm, ← Nat.div_div_eq_div_mul]
theorem dstr_snoc (n c : Nat) : dstr n (c + 1) = dstr (n / 10) c ++ [dig n 0] := by
  induction c with
  | zero => rfl
  | succ c ih => show dig n (c + 1) :: dstr n (c + 1) = dig (n / 10) c :: dstr (n / 10) c ++ [dig n 0]; rw [ih, dig_succ]; rfl
theorem dig_zero (n : Nat) : dig n 0 = UInt8.ofNat (48 + n % 10) := by simp [dig]
theorem digs_dstr (k : Nat) : ∀ n, Dm.digs k n = dstr n (Dm.digs k n).length := by
  induction k with
  | zero => intro n; rfl
  | succ k ih =>
    intro n
    by_cases h : n < 10
    · have e : Dm.digs (k + 1) n = [UInt8.ofNat (48 + n)] := by rw [Dm.digs, if_pos h]
      rw [e]; show _ = [dig n 0]; rw [dig_zero, Nat.mod_eq_of_lt h]
    · have e : Dm.digs (k + 1) n = Dm.digs k (n / 10) ++ [UInt8.ofNat (48 + n % 10)] := by rw [Dm.digs, if_neg h]
      rw [e, List.length_append, List.length_singleton, dstr_snoc, dig_zero, ← ih]
def nd : Nat → Nat → Nat
  | 0, _ => 0
  | f + 1, n => if n = 0 then 0 else 1 + nd f (n / 10)
theorem nd_zero (f : Nat) : nd f 0 = 0 := by cases f <;> simp [nd]
theorem nd_succ (f n : Nat) (h : n ≠ 0) : nd (f + 1) n = 1 + nd f (n / 10) := by simp [nd, h]
theorem digs_nd (k : Nat) : ∀ n, (Dm.digs (k + 1) n).length = 1 + nd k (n / 10) := by
  induction k with
  | zero => intro n; rw [Dm.digs]; split <;> simp [Dm.digs, nd]
  | succ k ih =>
    intro n
    rw [Dm.digs]
    by_cases h : n < 10
    · rw [if_pos h, show n / 10 = 0 by omega, nd_zero]; rfl
    · rw [if_neg h, List.length_append, List.length_singleton, ih, nd_succ _ _ (by omega)]; omega
def cnt (n : Nat) : Nat := (Dm.digs 9 n).length
theorem cnt_pos (n : Nat) : 1 ≤ cnt n := by unfold cnt; rw [digs_nd]; omega
theorem cnt_le (n : Nat) : cnt n ≤ 9 := Dm.digs_len 9 n
theorem lt_cnt (n : Nat) (h : n ≤ 99999999) : n < 10 ^ cnt n := by
  by_cases h0 : n = 0
  · subst h0; exact Nat.pow_pos (by omega)
  · exact (Dm.digs_log 9 n (by omega) (by omega)).2.2
theorem dig_none {n c : Nat} (h : n < 10 ^ c) : dig n c = 48 := by unfold dig; rw [Nat.div_eq_of_lt h]; rfl
/-- the figure at a place -/
def figAt (n : Nat) (x p : Int) : Int := if p < x then 48 else 48 + ((n / 10 ^ (p - x).toNat % 10 : Nat) : Int)
theorem figAt_bd (n : Nat) (x p : Int) : 48 ≤ figAt n x p ∧ figAt n x p ≤ 57 := by
  unfold figAt; split
  · omega
  · have := Nat.mod_lt (n / 10 ^ (p - x).toNat) (show 10 > 0 by omega); omega
/-- places and their figures, downward from p -/
def fl (n : Nat) (x p : Int) : Nat → List (Int × Int)
  | 0 => []
  | c + 1 => (p, figAt n x p) :: fl n x (p - 1) c
theorem fl_len (n : Nat) (x : Int) (c : Nat) : ∀ p, (fl n x p c).length = c := by induction c with
  | zero => intro p; rfl
  | succ c ih => intro p; simp [fl, ih]
theorem fl_add (n : Nat) (x : Int) (b : Nat) (a : Nat) : ∀ p : Int, fl n x p (a + b) = fl n x p a ++ fl n x (p - a) b := by
  induction a with
  | zero => intro p; simp [fl]
  | succ a ih => intro p; rw [Nat.succ_add]; show (p, figAt n x p) :: fl n x (p - 1) (a + b) = _; rw [ih, show p - 1 - (a : Int) = p - ((a + 1 : Nat) : Int) by omega]; rfl
theorem fl_snoc (n : Nat) (x p : Int) (a : Nat) : fl n x p (a + 1) = fl n x p a ++ [(p - a, figAt n x (p - a))] := by rw [fl_add]; rfl
def one (y : Int × Int) : List UInt8 := (if y.1 = -1 then [46] else []) ++ [UInt8.ofNat y.2.toNat]
def txt (l : List (Int × Int)) : List UInt8 := l.flatMap one
theorem txt_snoc (l : List (Int × Int)) (y : Int × Int) : txt (l ++ [y]) = txt l ++ one y := by simp [txt]
theorem one_fig (n : Nat) (x p : Int) (h : p ≠ -1) (hx : x ≤ p) : one (p, figAt n x p) = [dig n (p - x).toNat] := by
  unfold one figAt dig
  rw [if_neg h, if_neg (by omega)]
  simp only [List.nil_append]
  congr 2
theorem one_nought (n : Nat) (x p : Int) (h : p ≠ -1) (hx : p < x) : one (p, figAt n x p) = [48] := by
  unfold one figAt; rw [if_neg h, if_pos hx]; rfl
theorem one_point (n : Nat) (x : Int) (hx : x ≤ -1) : one (-1, figAt n x (-1)) = [46, dig n (-1 - x).toNat] := by
  unfold one figAt dig
  rw [if_pos rfl, if_neg (by omega)]
  simp only [List.cons_append, List.nil_append]
  congr 3
theorem txt_cons (y : Int × Int) (l : List (Int × Int)) : txt (y :: l) = one y ++ txt l := by simp [txt]
/-- figures ahead of the point -/
theorem txt_ahead (n : Nat) (x : Int) (b : Nat) (a : Nat) : ∀ p : Int, p = (a : Int) + b + x - 1 → 0 ≤ (b : Int) + x → txt (fl n x p a) = dsl n b a := by
  induction a with
  | zero => intro p _ _; rfl
  | succ a ih =>
    intro p hp hb
    show txt ((p, figAt n x p) :: fl n x (p - 1) a) = dig n (a + b) :: dsl n b a
    rw [txt_cons, one_fig n x p (by omega) (by omega), ih (p - 1) (by omega) hb, show (p - x).toNat = a + b by omega]; rfl
theorem txt_noughts (n : Nat) (x : Int) (a : Nat) : ∀ p : Int, p = (a : Int) - 1 → p < x → txt (fl n x p a) = List.replicate a 48 := by
  induction a with
  | zero => intro p _ _; rfl
  | succ a ih =>
    intro p hp hx
    show txt ((p, figAt n x p) :: fl n x (p - 1) a) = _
    rw [txt_cons, one_nought n x p (by omega) hx, ih (p - 1) (by omega) (by omega), List.replicate_succ]; rfl
/-- figures behind the point, the first aside -/
theorem txt_behind (n : Nat) (x : Int) (a : Nat) : ∀ p : Int, p = (a : Int) + x - 1 → p < -1 → txt (fl n x p a) = dstr n a := by
  induction a with
  | zero => intro p _ _; rfl
  | succ a ih =>
    intro p hp hx
    show txt ((p, figAt n x p) :: fl n x (p - 1) a) = dig n a :: dstr n a
    rw [txt_cons, one_fig n x p (by omega) (by omega), ih (p - 1) (by omega) (by omega), show (p - x).toNat = a by omega]; rfl
/-- the text of a number that is not below 0 -/
def body (n : Nat) (x : Int) : List UInt8 :=
  if 0 ≤ x then dstr n (cnt n) ++ List.replicate x.toNat 48
  else dsl n (-x).toNat (max (cnt n) ((-x).toNat + 1) - (-x).toNat) ++ 46 :: dstr n (-x).toNat
def hi (n : Nat) (x : Int) : Int := max (x + cnt n - 1) 0
def lo (x : Int) : Int := min x 0
theorem txt_body (n : Nat) (x : Int) : txt (fl n x (hi n x) (hi n x - lo x + 1).toNat) = body n x := by
  have hc := cnt_pos n
  unfold body
  by_cases h : 0 ≤ x
  · rw [if_pos h]
    have e : (hi n x - lo x + 1).toNat = cnt n + x.toNat := by unfold hi lo; omega
    rw [e, fl_add]
    have e1 : txt (fl n x (hi n x) (cnt n)) = dsl n 0 (cnt n) := txt_ahead n x 0 (cnt n) _ (by unfold hi; omega) (by omega)
    have e2 : txt (fl n x (hi n x - (cnt n : Int)) x.toNat) = List.replicate x.toNat 48 := txt_noughts n x x.toNat _ (by unfold hi; omega) (by unfold hi; omega)
    have e3 := dstr_add n 0 (cnt n)
    simp only [Nat.add_zero, dstr, List.append_nil] at e3
    unfold txt at *
    rw [List.flatMap_append, e1, e2, ← e3]
  · rw [if_neg h]
    obtain ⟨k, hk⟩ : ∃ k : Nat, x = -((k : Int) + 1) := ⟨(-x - 1).toNat, by omega⟩
    have ek : (-x).toNat = k + 1 := by omega
    rw [ek]
    have e : (hi n x - lo x + 1).toNat = (max (cnt n) (k + 1 + 1) - (k + 1)) + (k + 1) := by unfold hi lo; omega
    rw [e, fl_add]
    have e1 : txt (fl n x (hi n x) (max (cnt n) (k + 1 + 1) - (k + 1))) = dsl n (k + 1) (max (cnt n) (k + 1 + 1) - (k + 1)) := txt_ahead n x (k + 1) _ _ (by unfold hi; omega) (by omega)
    have e2 : hi n x - ((max (cnt n) (k + 1 + 1) - (k + 1) : Nat) : Int) = -1 := by unfold hi; omega
    have e3 : txt (fl n x (-1) (k + 1)) = 46 :: dstr n (k + 1) := by
      show txt ((-1, figAt n x (-1)) :: fl n x (-1 - 1) k) = _
      rw [txt_cons, one_point n x (by omega), txt_behind n x k _ (by omega) (by omega), show (-1 - x).toNat = k by omega]; rfl
    unfold txt at *
    rw [List.flatMap_append, e1, e2, e3]
def text (m x : Int) : List UInt8 := (if m < 0 then [45] else []) ++ body m.natAbs x
theorem body_len (n : Nat) (x : Int) (h1 : -8 ≤ x) (h2 : x ≤ 8) : (body n x).length ≤ 40 := by
  have := cnt_le n
  unfold body; split
  · simp [dstr_len]; omega
  · simp [dstr_len, dsl_len]; omega
/-- the same, the figures as bytes -/
def fig8 (n : Nat) (x p : Int) : UInt8 := UInt8.ofNat (figAt n x p).toNat
theorem fig8_val (n : Nat) (x p : Int) : ((fig8 n x p).toNat : Int) = figAt n x p := by
  have := figAt_bd n x p
  unfold fig8; rw [UInt8.toNat_ofNat']; omega
def fl8 (n : Nat) (x p : Int) : Nat → List (Int × UInt8)
  | 0 => []
  | c + 1 => (p, fig8 n x p) :: fl8 n x (p - 1) c
theorem fl8_len (n : Nat) (x : Int) (c : Nat) : ∀ p, (fl8 n x p c).length = c := by induction c with
  | zero => intro p; rfl
  | succ c ih => intro p; simp [fl8, ih]
theorem fl8_snoc (n : Nat) (x : Int) (a : Nat) : ∀ p : Int, fl8 n x p (a + 1) = fl8 n x p a ++ [(p - a, fig8 n x (p - a))] := by
  induction a with
  | zero => intro p; simp [fl8]
  | succ a ih => intro p; show (p, fig8 n x p) :: fl8 n x (p - 1) (a + 1) = _; rw [ih, show p - 1 - (a : Int) = p - ((a + 1 : Nat) : Int) by omega]; rfl
def one8 (y : Int × UInt8) : List UInt8 := (if y.1 = -1 then [46] else []) ++ [y.2]
def txt8 (l : List (Int × UInt8)) : List UInt8 := l.flatMap one8
theorem txt8_snoc (l : List (Int × UInt8)) (y : Int × UInt8) : txt8 (l ++ [y]) = txt8 l ++ one8 y := by simp [txt8]
theorem txt8_eq (n : Nat) (x : Int) (c : Nat) : ∀ p, txt8 (fl8 n x p c) = txt (fl n x p c) := by
  induction c with
  | zero => intro p; rfl
  | succ c ih =>
    intro p
    show one8 (p, fig8 n x p) ++ txt8 (fl8 n x (p - 1) c) = one (p, figAt n x p) ++ txt (fl n x (p - 1) c)
    rw [ih]; rfl
theorem txt8_len (l : List (Int × UInt8)) : (txt8 l).length ≤ 2 * l.length := by
  induction l with
  | nil => simp [txt8]
  | cons y t ih =>
    show (one8 y ++ txt8 t).length ≤ _
    have : (one8 y).length ≤ 2 := by unfold one8; split <;> simp
    rw [List.length_append, List.length_cons]; omega
end Go.Proofs.Ytldlfmehplemiaa.Tm
