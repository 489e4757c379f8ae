/- My own texts, joined: Dm4 Dm2 Dm3 Dm5 Dm6 Dm7 Dm8 Ca. -/
import Derived.Test.YtafhpplhlmlfhaaJFnValueOk0
import Derived.Test.YtafhpplhlmlfhaaJFnValueOk5
import Derived.Lib.Bytealg
/- Plain mathematics of figures and of the order of decimals: no program in it. -/
namespace Go.Proofs.Ytafhpplhlmlfhaa.Dm
/-- the figures of a whole number, so many at most -/
def digs : Nat → Nat → List UInt8
  | 0, _ => []
  | k + 1, n => if n < 10 then [UInt8.ofNat (48 + n)] else digs k (n / 10) ++ [UInt8.ofNat (48 + n % 10)]

theorem digs_len (k : Nat) : ∀ n, (digs k n).length ≤ k := by
  induction k with
  | zero => intro n; exact Nat.le_refl _
  | succ k ih =>
    intro n
    rw [digs]
    by_cases h : n < 10
    · rw [if_pos h]; simp
    · rw [if_neg h]; have := ih (n / 10); simp; omega

theorem digs_log (k : Nat) : ∀ n, 1 ≤ n → n < 10 ^ k → 1 ≤ (digs k n).length ∧ 10 ^ ((digs k n).length - 1) ≤ n ∧ n < 10 ^ (digs k n).length := by
  induction k with
  | zero => intro n h1 h2; simp at h2; omega
  | succ k ih =>
    intro n h1 h2
    rw [digs]
    by_cases h : n < 10
    · rw [if_pos h]; simp; omega
    · rw [if_neg h]
      have e := ih (n / 10) (by omega) (by rw [Nat.pow_succ] at h2; omega)
      obtain ⟨e1, e2, e3⟩ := e
      simp only [List.length_append, List.length_cons, List.length_nil, Nat.zero_add, Nat.add_sub_cancel]
      refine ⟨by omega, ?_, ?_⟩
      · have : 10 ^ (digs k (n / 10)).length = 10 ^ ((digs k (n / 10)).length - 1) * 10 := by rw [← Nat.pow_succ]; congr 1; omega
        omega
      · rw [Nat.pow_succ]; omega
def sgn (v : Int) : Int := if v < 0 then -1 else if 0 < v then 1 else 0
theorem sgn_neg {v : Int} (h : v < 0) : sgn v = -1 := by rw [sgn, if_pos h]
theorem sgn_pos {v : Int} (h : 0 < v) : sgn v = 1 := by rw [sgn, if_neg (by omega), if_pos h]
theorem sgn_zero : sgn 0 = 0 := rfl
theorem sgn_mul {v c : Int} (hc : 1 ≤ c) : sgn (v * c) = sgn v := by
  rcases Int.lt_trichotomy v 0 with h | h | h
  · rw [sgn_neg h, sgn_neg (Int.mul_neg_of_neg_of_pos h (by omega))]
  · subst h; simp [sgn]
  · rw [sgn_pos h, sgn_pos (Int.mul_pos h (by omega))]
theorem p10_add {a b : Int} (ha : 0 ≤ a) (hb : 0 ≤ b) : p10 (a + b) = p10 a * p10 b := by
  unfold p10; rw [show (a + b).toNat = a.toNat + b.toNat from by omega, Int.pow_add]
/-- what a decimal is worth at the last place -/
def val (m x : Int) : Int := m * p10 (x + 8)
/-- DecCmp -/
def cmp (m x n y : Int) : Int := if ok m x = true ∧ ok n y = true then sgn (val m x - val n y) else 0
theorem val_at {m x p : Int} (hp : p ≤ x) (hp8 : -8 ≤ p) : val m x = m * p10 (x - p) * p10 (p + 8) := by
  rw [val, Int.mul_assoc, ← p10_add (by omega) (by omega)]; congr 2; omega
theorem manAt_val {m x p : Int} (hp : p ≤ x) (hp8 : -8 ≤ p) (h : (manAt m x p).2 = true) : (manAt m x p).1 * p10 (p + 8) = val m x := by
  rw [val_at hp hp8]
  unfold manAt at h ⊢
  by_cases h0 : m = 0
  · rw [if_pos h0]; subst h0; simp
  · rw [if_neg h0] at h ⊢
    by_cases h8 : 8 < x - p
    · rw [if_pos h8] at h; simp at h
    · rw [if_neg h8]
theorem cmp_near {m x n y : Int} (hm : ok m x = true) (hn : ok n y = true) (h1 : (manAt m x (min x y)).2 = true) (h2 : (manAt n y (min x y)).2 = true) :
    cmp m x n y = sgn ((manAt m x (min x y)).1 - (manAt n y (min x y)).1) := by
  have bm := ok_bd hm
  have bn := ok_bd hn
  rw [cmp, if_pos ⟨hm, hn⟩, ← manAt_val (p := min x y) (by omega) (by omega) h1, ← manAt_val (p := min x y) (by omega) (by omega) h2, ← Int.sub_mul, sgn_mul (p10_pos _)]
theorem far_sgn {m n c : Int} (hm : m ≠ 0) (h1 : -99999999 ≤ n) (h2 : n ≤ 99999999) (hc : 1000000000 ≤ c) : sgn (m * c - n) = sgn m := by
  rcases Int.lt_or_gt_of_ne hm with h | h
  · have : 1 * c ≤ (-m) * c := Int.mul_le_mul_of_nonneg_right (by omega) (by omega)
    have e : (-m) * c = -(m * c) := Int.neg_mul _ _
    rw [sgn_neg h, sgn_neg (by omega)]
  · have : 1 * c ≤ m * c := Int.mul_le_mul_of_nonneg_right (by omega) (by omega)
    rw [sgn_pos h, sgn_pos (by omega)]
theorem manAt_far {m x p : Int} (h : (manAt m x p).2 = false) : m ≠ 0 ∧ 8 < x - p := by
  unfold manAt at h
  by_cases h0 : m = 0
  · rw [if_pos h0] at h; simp at h
  · refine ⟨h0, ?_⟩
    rw [if_neg h0] at h
    by_cases h8 : 8 < x - p
    · exact h8
    · rw [if_neg h8] at h; simp at h
theorem p10_nine {k : Int} (h : 8 < k) : 1000000000 ≤ p10 k := by
  have := p10_mono (j := 9) (k := k) (by omega)
  rw [show p10 9 = 1000000000 from rfl] at this; exact this
theorem cmp_far1 {m x n y : Int} (hm : ok m x = true) (hn : ok n y = true) (h1 : (manAt m x (min x y)).2 = false) : cmp m x n y = sgn m := by
  have bm := ok_bd hm
  have bn := ok_bd hn
  obtain ⟨h0, h8⟩ := manAt_far h1
  have e : min x y = y := by omega
  rw [e] at h8
  rw [cmp, if_pos ⟨hm, hn⟩, val_at (m := m) (p := y) (by omega) (by omega), val, ← Int.sub_mul, sgn_mul (p10_pos _)]
  exact far_sgn h0 (by omega) (by omega) (p10_nine h8)
theorem sgn_sub (a b : Int) : sgn (a - b) = -sgn (b - a) := by
  rcases Int.lt_trichotomy a b with h | h | h
  · rw [sgn_neg (by omega), sgn_pos (by omega)]
  · subst h; simp [sgn]
  · rw [sgn_pos (by omega), sgn_neg (by omega)]; rfl
theorem cmp_swap (m x n y : Int) : cmp m x n y = -cmp n y m x := by
  unfold cmp
  by_cases h : ok m x = true ∧ ok n y = true
  · rw [if_pos h, if_pos ⟨h.2, h.1⟩, sgn_sub]
  · rw [if_neg h, if_neg (fun k => h ⟨k.2, k.1⟩)]; rfl
theorem sgn_neg_eq (a : Int) : sgn (-a) = -sgn a := by
  have := sgn_sub 0 a
  simpa using this
theorem cmp_far2 {m x n y : Int} (hm : ok m x = true) (hn : ok n y = true) (h2 : (manAt n y (min x y)).2 = false) : cmp m x n y = sgn (0 - n) := by
  rw [cmp_swap, cmp_far1 hn hm (by rw [Int.min_comm]; exact h2), show 0 - n = -n from by omega, sgn_neg_eq]
/-- how many figures -/
def dn (m : Int) : Int := ((digs 19 m.natAbs).length : Int)
theorem dn_bd {m x : Int} (hm : ok m x = true) (h0 : m ≠ 0) : 1 ≤ dn m ∧ dn m ≤ 19 ∧ p10 (dn m - 1) ≤ m.natAbs ∧ (m.natAbs : Int) < p10 (dn m) := by
  have b := ok_bd hm
  have hl := digs_log 19 m.natAbs (by omega) (by omega)
  have hle := digs_len 19 m.natAbs
  unfold dn p10
  rw [show ((digs 19 m.natAbs).length : Int).toNat = (digs 19 m.natAbs).length from by omega, show (((digs 19 m.natAbs).length : Int) - 1).toNat = (digs 19 m.natAbs).length - 1 from by omega]
  refine ⟨by omega, by omega, ?_, ?_⟩
  · exact_mod_cast hl.2.1
  · exact_mod_cast hl.2.2
theorem dn_le8 {m x : Int} (hm : ok m x = true) (h0 : m ≠ 0) : dn m ≤ 8 := by
  obtain ⟨h1, h2, h3, h4⟩ := dn_bd hm h0
  have b := ok_bd hm
  by_cases h : dn m ≤ 8
  · exact h
  · have := p10_mono (j := 8) (k := dn m - 1) (by omega)
    rw [show p10 8 = 100000000 from rfl] at this
    omega
theorem abs_gt {m x n y : Int} (hm : ok m x = true) (hn : ok n y = true) (hm0 : m ≠ 0) (hn0 : n ≠ 0) (h : dn n + y < dn m + x) : (n.natAbs : Int) * p10 (y + 8) < (m.natAbs : Int) * p10 (x + 8) := by
  have bm := ok_bd hm
  have bn := ok_bd hn
  obtain ⟨m1, m2, m3, m4⟩ := dn_bd hm hm0
  obtain ⟨n1, n2, n3, n4⟩ := dn_bd hn hn0
  have a1 : p10 (dn m - 1) * p10 (x + 8) ≤ (m.natAbs : Int) * p10 (x + 8) := Int.mul_le_mul_of_nonneg_right m3 (by have := p10_pos (x + 8); omega)
  have a2 : (n.natAbs : Int) * p10 (y + 8) < p10 (dn n) * p10 (y + 8) := Int.mul_lt_mul_of_pos_right n4 (by have := p10_pos (y + 8); omega)
  rw [← p10_add (by omega) (by omega)] at a1 a2
  have a3 : p10 (dn n + (y + 8)) ≤ p10 (dn m - 1 + (x + 8)) := p10_mono (by omega)
  omega
/-- l1Cmp -/
def cmpS (m x n y : Int) : Int :=
  if sgn m ≠ sgn n then sgn (sgn m - sgn n) else if m = 0 then 0 else
    if dn m + x ≠ dn n + y then sgn (dn m + x - (dn n + y)) * sgn m else sgn (m * p10 (x - y) - n * p10 (y - x))
theorem sgn_cases (v : Int) : (v < 0 ∧ sgn v = -1) ∨ (v = 0 ∧ sgn v = 0) ∨ (0 < v ∧ sgn v = 1) := by
  rcases Int.lt_trichotomy v 0 with h | h | h
  · exact .inl ⟨h, sgn_neg h⟩
  · exact .inr (.inl ⟨h, by subst h; rfl⟩)
  · exact .inr (.inr ⟨h, sgn_pos h⟩)
theorem val_sgn (m x : Int) : sgn (val m x) = sgn m := sgn_mul (p10_pos _)
theorem cmpS_eq {m x n y : Int} (hm : ok m x = true) (hn : ok n y = true) : cmpS m x n y = cmp m x n y := by
  have bm := ok_bd hm
  have bn := ok_bd hn
  have vm := val_sgn m x
  have vn := val_sgn n y
  rw [cmp, if_pos ⟨hm, hn⟩, cmpS]
  by_cases hs : sgn m ≠ sgn n
  · rw [if_pos hs]
    rw [← vm, ← vn] at hs ⊢
    generalize val m x = a at *
    generalize val n y = b at *
    rcases sgn_cases a with ⟨ha, ea⟩ | ⟨ha, ea⟩ | ⟨ha, ea⟩ <;> rcases sgn_cases b with ⟨hb, eb⟩ | ⟨hb, eb⟩ | ⟨hb, eb⟩ <;> rw [ea, eb] at hs ⊢ <;> first | (exfalso; exact hs rfl) | (rw [sgn_pos (v := a - b) (by omega)]; rfl) | (rw [sgn_neg (v := a - b) (by omega)]; rfl)
  · rw [if_neg hs]
    have hs' : sgn m = sgn n := by omega
    by_cases hm0 : m = 0
    · rw [if_pos hm0]
      have hn0 : n = 0 := by
        subst hm0
        rcases sgn_cases n with ⟨hb, eb⟩ | ⟨hb, eb⟩ | ⟨hb, eb⟩
        · rw [eb] at hs'; simp [sgn] at hs'
        · exact hb
        · rw [eb] at hs'; simp [sgn] at hs'
      subst hm0 hn0; simp [val, sgn]
    · rw [if_neg hm0]
      have hn0 : n ≠ 0 := by
        intro h; subst h
        rcases sgn_cases m with ⟨hb, eb⟩ | ⟨hb, eb⟩ | ⟨hb, eb⟩
        · rw [eb] at hs'; simp [sgn] at hs'
        · exact hm0 hb
        · rw [eb] at hs'; simp [sgn] at hs'
      by_cases hd : dn m + x ≠ dn n + y
      · rw [if_pos hd]
        have em : val m x = m * p10 (x + 8) := rfl
        have en : val n y = n * p10 (y + 8) := rfl
        rcases sgn_cases m with ⟨ha, ea⟩ | ⟨ha, ea⟩ | ⟨ha, ea⟩
        · have hnn : n < 0 := by
            rcases sgn_cases n with ⟨hb, eb⟩ | ⟨hb, eb⟩ | ⟨hb, eb⟩
            · exact hb
            · exact absurd hb hn0
            · rw [ea, eb] at hs'; simp at hs'
          have e1 : (m.natAbs : Int) * p10 (x + 8) = -(m * p10 (x + 8)) := by rw [show (m.natAbs : Int) = -m from by omega, Int.neg_mul]
          have e2 : (n.natAbs : Int) * p10 (y + 8) = -(n * p10 (y + 8)) := by rw [show (n.natAbs : Int) = -n from by omega, Int.neg_mul]
          rcases Int.lt_or_gt_of_ne hd with h | h
          · have := abs_gt hn hm hn0 hm0 h
            rw [ea, sgn_neg (by omega), sgn_pos (by omega)]; rfl
          · have := abs_gt hm hn hm0 hn0 h
            rw [ea, sgn_pos (by omega), sgn_neg (by omega)]; rfl
        · exact absurd ha hm0
        · have hnn : 0 < n := by
            rcases sgn_cases n with ⟨hb, eb⟩ | ⟨hb, eb⟩ | ⟨hb, eb⟩
            · rw [ea, eb] at hs'; simp at hs'
            · exact absurd hb hn0
            · exact hb
          have e1 : (m.natAbs : Int) = m := by omega
          have e2 : (n.natAbs : Int) = n := by omega
          rcases Int.lt_or_gt_of_ne hd with h | h
          · have := abs_gt hn hm hn0 hm0 h
            rw [e1, e2] at this
            rw [ea, sgn_neg (by omega), sgn_neg (by omega)]; rfl
          · have := abs_gt hm hn hm0 hn0 h
            rw [e1, e2] at this
            rw [ea, sgn_pos (by omega), sgn_pos (by omega)]; rfl
      · rw [if_neg hd]
        by_cases hxy : y ≤ x
        · rw [val_at (m := m) (p := y) hxy (by omega), val, ← Int.sub_mul, sgn_mul (p10_pos _), p10_nonpos (y - x) (by omega), Int.mul_one]
        · rw [val_at (m := n) (p := x) (by omega) (by omega), val, ← Int.sub_mul, sgn_mul (p10_pos _), p10_nonpos (x - y) (by omega), Int.mul_one]
end Go.Proofs.Ytafhpplhlmlfhaa.Dm
/- Plain mathematics of the quotient: no program in it. -/
namespace Go.Proofs.Ytafhpplhlmlfhaa.Dm
/-- so many noughts brought down, one by one -/
def qloop : Nat → Int → Int → Int → Int × Bool
  | 0, c, _, _ => (c, true)
  | k + 1, c, r, m => if -100000000000000000 ≤ c * 10 + (r * 10).tdiv m ∧ c * 10 + (r * 10).tdiv m ≤ 100000000000000000 then qloop k (c * 10 + (r * 10).tdiv m) ((r * 10).tmod m) m else (0, false)
def qdown : Nat → Int → Int
  | 0, c => c
  | k + 1, c => qdown k (c.tdiv 10)
def quotFrom (p c r m : Int) : Int × Bool := if 0 < p then qloop p.toNat c r m else (qdown (-p).toNat c, true)
def quot (n m e : Int) : Int × Bool := quotFrom e (n.tdiv m) (n.tmod m) m
theorem quotFrom_up {p c r m : Int} (h : 0 < p) : quotFrom p c r m = if -100000000000000000 ≤ c * 10 + (r * 10).tdiv m ∧ c * 10 + (r * 10).tdiv m ≤ 100000000000000000 then quotFrom (p - 1) (c * 10 + (r * 10).tdiv m) ((r * 10).tmod m) m else (0, false) := by
  rw [quotFrom, if_pos h, show p.toNat = (p - 1).toNat + 1 from by omega, qloop]
  by_cases hc : -100000000000000000 ≤ c * 10 + (r * 10).tdiv m ∧ c * 10 + (r * 10).tdiv m ≤ 100000000000000000
  · rw [if_pos hc, if_pos hc, quotFrom]
    by_cases h1 : 0 < p - 1
    · rw [if_pos h1]
    · rw [if_neg h1, show (p - 1).toNat = 0 from by omega, show (-(p - 1)).toNat = 0 from by omega, qloop, qdown]
  · rw [if_neg hc, if_neg hc]
theorem quotFrom_down {p c r m : Int} (h : p < 0) : quotFrom p c r m = quotFrom (p + 1) (c.tdiv 10) r m := by
  rw [quotFrom, if_neg (by omega), quotFrom, if_neg (by omega), show (-p).toNat = (-(p + 1)).toNat + 1 from by omega, qdown]
theorem quotFrom_end (c r m : Int) : quotFrom 0 c r m = (c, true) := rfl
theorem tdiv_bd (a m : Int) (h : m ≠ 0) : (a.tdiv m).natAbs ≤ a.natAbs ∧ (a.tmod m).natAbs < m.natAbs := by
  refine ⟨?_, ?_⟩
  · rw [Int.natAbs_tdiv]; exact Nat.div_le_self _ _
  · rw [Int.natAbs_tmod]; exact Nat.mod_lt _ (by omega)
theorem step_bd (r m : Int) (hr : r.natAbs < m.natAbs) : -10 ≤ (r * 10).tdiv m ∧ (r * 10).tdiv m ≤ 10 := by
  have e : ((r * 10).tdiv m).natAbs = (r.natAbs * 10) / m.natAbs := by rw [Int.natAbs_tdiv, Int.natAbs_mul]; rfl
  have : (r.natAbs * 10) / m.natAbs ≤ 10 := by
    apply Nat.div_le_of_le_mul; rw [Nat.mul_comm]; exact Nat.mul_le_mul_left 10 (Nat.le_of_lt hr) |> (fun h => by omega)
  omega
theorem qloop_negl (k : Nat) : ∀ c r m : Int, qloop k (-c) (-r) m = (-(qloop k c r m).1, (qloop k c r m).2) := by
  induction k with
  | zero => intro c r m; rfl
  | succ k ih =>
    intro c r m
    have e : -c * 10 + (-r * 10).tdiv m = -(c * 10 + (r * 10).tdiv m) := by
      rw [Int.neg_mul r 10, Int.neg_tdiv]; omega
    have e2 : (-r * 10).tmod m = -((r * 10).tmod m) := by rw [Int.neg_mul, Int.neg_tmod]
    rw [qloop, qloop, e, e2]
    by_cases hc : -100000000000000000 ≤ c * 10 + (r * 10).tdiv m ∧ c * 10 + (r * 10).tdiv m ≤ 100000000000000000
    · rw [if_pos hc, if_pos (by omega), ih]
    · rw [if_neg hc, if_neg (by omega)]; rfl
theorem qloop_negr (k : Nat) : ∀ c r m : Int, qloop k (-c) r (-m) = (-(qloop k c r m).1, (qloop k c r m).2) := by
  induction k with
  | zero => intro c r m; rfl
  | succ k ih =>
    intro c r m
    have e : -c * 10 + (r * 10).tdiv (-m) = -(c * 10 + (r * 10).tdiv m) := by
      rw [Int.tdiv_neg]; omega
    have e2 : (r * 10).tmod (-m) = (r * 10).tmod m := Int.tmod_neg _ _
    rw [qloop, qloop, e, e2]
    by_cases hc : -100000000000000000 ≤ c * 10 + (r * 10).tdiv m ∧ c * 10 + (r * 10).tdiv m ≤ 100000000000000000
    · rw [if_pos hc, if_pos (by omega), ih]
    · rw [if_neg hc, if_neg (by omega)]; rfl
theorem qdown_neg (k : Nat) : ∀ c : Int, qdown k (-c) = -(qdown k c) := by
  induction k with
  | zero => intro c; rfl
  | succ k ih => intro c; rw [qdown, qdown, Int.neg_tdiv, ih]
theorem quot_negl (n m e : Int) : quot (-n) m e = (-(quot n m e).1, (quot n m e).2) := by
  rw [quot, quot, quotFrom, quotFrom, Int.neg_tdiv, Int.neg_tmod]
  by_cases h : 0 < e
  · rw [if_pos h, if_pos h, qloop_negl]
  · rw [if_neg h, if_neg h, qdown_neg]
theorem quot_negr (n m e : Int) : quot n (-m) e = (-(quot n m e).1, (quot n m e).2) := by
  rw [quot, quot, quotFrom, quotFrom, Int.tdiv_neg, Int.tmod_neg]
  by_cases h : 0 < e
  · rw [if_pos h, if_pos h, qloop_negr]
  · rw [if_neg h, if_neg h, qdown_neg]
/-- DecDiv of two in their form, the second not 0 -/
def div1 (m x n y p : Int) : Int × Int × Bool := if (quot m n (x - y + p)).2 = true then norm (quot m n (x - y + p)).1 (-p) else (0, 0, false)
def div (m x n y p : Int) : Int × Int × Bool := if ok m x = true ∧ ok n y = true ∧ n ≠ 0 ∧ 0 ≤ p ∧ p ≤ 8 then div1 m x n y p else (0, 0, false)
theorem qloop_bd (k : Nat) : ∀ c r m : Int, -100000000000000000 ≤ c → c ≤ 100000000000000000 → -100000000000000000 ≤ (qloop k c r m).1 ∧ (qloop k c r m).1 ≤ 100000000000000000 := by
  induction k with
  | zero => intro c r m h1 h2; exact ⟨h1, h2⟩
  | succ k ih =>
    intro c r m h1 h2
    rw [qloop]
    by_cases hc : -100000000000000000 ≤ c * 10 + (r * 10).tdiv m ∧ c * 10 + (r * 10).tdiv m ≤ 100000000000000000
    · rw [if_pos hc]; exact ih _ _ _ hc.1 hc.2
    · rw [if_neg hc]; exact ⟨by decide, by decide⟩
theorem qdown_bd (k : Nat) : ∀ c : Int, -100000000000000000 ≤ c → c ≤ 100000000000000000 → -100000000000000000 ≤ qdown k c ∧ qdown k c ≤ 100000000000000000 := by
  induction k with
  | zero => intro c h1 h2; exact ⟨h1, h2⟩
  | succ k ih =>
    intro c h1 h2
    have := tdiv_bd c 10 (by omega)
    rw [qdown]; exact ih _ (by omega) (by omega)
theorem quot_bd {n m : Int} (e : Int) (hm : m ≠ 0) (h1 : -99999999 ≤ n) (h2 : n ≤ 99999999) : -100000000000000000 ≤ (quot n m e).1 ∧ (quot n m e).1 ≤ 100000000000000000 := by
  have := tdiv_bd n m hm
  rw [quot, quotFrom]
  by_cases h : 0 < e
  · rw [if_pos h]; exact qloop_bd _ _ _ _ (by omega) (by omega)
  · rw [if_neg h]; exact qdown_bd _ _ (by omega) (by omega)
end Go.Proofs.Ytafhpplhlmlfhaa.Dm
/- Plain mathematics of what is left: no program in it. -/
namespace Go.Proofs.Ytafhpplhlmlfhaa.Dm
/-- DecMod -/
def mod (m x n y : Int) : Int × Int × Bool :=
  if (div m x n y 0).2.2 = true then
    if (mul n y (div m x n y 0).1 (div m x n y 0).2.1).2.2 = true then sub m x (mul n y (div m x n y 0).1 (div m x n y 0).2.1).1 (mul n y (div m x n y 0).1 (div m x n y 0).2.1).2.1 else (0, 0, false)
  else (0, 0, false)
theorem norm_ok {m e : Int} (h : (norm m e).2.2 = true) : ok (norm m e).1 (norm m e).2.1 = true := by
  unfold norm at h ⊢
  by_cases h0 : m = 0
  · rw [if_pos h0]; rfl
  · rw [if_neg h0] at h ⊢
    by_cases ho : ok (strip 20 m e).1 (strip 20 m e).2 = true
    · rw [if_pos ho]; exact ho
    · rw [if_neg ho] at h; simp at h
theorem div1_ok {m x n y p : Int} (h : (div1 m x n y p).2.2 = true) : ok (div1 m x n y p).1 (div1 m x n y p).2.1 = true := by
  unfold div1 at h ⊢
  by_cases hq : (quot m n (x - y + p)).2 = true
  · rw [if_pos hq] at h ⊢; exact norm_ok h
  · rw [if_neg hq] at h; simp at h
theorem mod_no {m x n y : Int} (h : ¬ (ok m x = true ∧ ok n y = true ∧ n ≠ 0)) : mod m x n y = (0, 0, false) := by
  have e : div m x n y 0 = (0, 0, false) := by rw [div, if_neg (fun k => h ⟨k.1, k.2.1, k.2.2.1⟩)]
  rw [mod, e]; rfl
theorem mod_div {m x n y : Int} (hm : ok m x = true) (hn : ok n y = true) (h0 : n ≠ 0) : div m x n y 0 = div1 m x n y 0 := by
  rw [div, if_pos ⟨hm, hn, h0, by omega, by omega⟩]
theorem mod_no1 {m x n y : Int} (hm : ok m x = true) (hn : ok n y = true) (h0 : n ≠ 0) (h : (div1 m x n y 0).2.2 = false) : mod m x n y = (0, 0, false) := by
  rw [mod, mod_div hm hn h0, h]; rfl
theorem mod_mul {m x n y : Int} (hn : ok n y = true) (h : (div1 m x n y 0).2.2 = true) : mul n y (div1 m x n y 0).1 (div1 m x n y 0).2.1 = norm ((div1 m x n y 0).1 * n) ((div1 m x n y 0).2.1 + y) := by
  rw [mul, if_pos ⟨hn, div1_ok h⟩, Int.mul_comm, Int.add_comm]
theorem mod_no2 {m x n y : Int} (hm : ok m x = true) (hn : ok n y = true) (h0 : n ≠ 0) (h : (div1 m x n y 0).2.2 = true) (h2 : (norm ((div1 m x n y 0).1 * n) ((div1 m x n y 0).2.1 + y)).2.2 = false) : mod m x n y = (0, 0, false) := by
  rw [mod, mod_div hm hn h0, if_pos h, mod_mul hn h, h2]; rfl
theorem mod_yes {m x n y : Int} (hm : ok m x = true) (hn : ok n y = true) (h0 : n ≠ 0) (h : (div1 m x n y 0).2.2 = true) (h2 : (norm ((div1 m x n y 0).1 * n) ((div1 m x n y 0).2.1 + y)).2.2 = true) :
    mod m x n y = add1 m x (-(norm ((div1 m x n y 0).1 * n) ((div1 m x n y 0).2.1 + y)).1) (norm ((div1 m x n y 0).1 * n) ((div1 m x n y 0).2.1 + y)).2.1 := by
  rw [mod, mod_div hm hn h0, if_pos h, mod_mul hn h, if_pos h2, sub, if_pos ⟨hm, norm_ok h2⟩]
theorem norm_i64 (m e : Int) : -99999999 ≤ (norm m e).1 ∧ (norm m e).1 ≤ 99999999 := by
  by_cases h : (norm m e).2.2 = true
  · have := ok_bd (norm_ok h); omega
  · have : norm m e = (0, 0, false) := by
      unfold norm at h ⊢
      by_cases h0 : m = 0
      · rw [if_pos h0] at h; simp at h
      · rw [if_neg h0] at h ⊢
        by_cases ho : ok (strip 20 m e).1 (strip 20 m e).2 = true
        · rw [if_pos ho] at h; simp at h
        · rw [if_neg ho]
    rw [this]; exact ⟨by decide, by decide⟩
theorem mul_i64 (m x n y : Int) : -99999999 ≤ (mul m x n y).1 ∧ (mul m x n y).1 ≤ 99999999 := by
  unfold mul
  by_cases h : ok m x = true ∧ ok n y = true
  · rw [if_pos h]; exact norm_i64 _ _
  · rw [if_neg h]; exact ⟨by decide, by decide⟩
end Go.Proofs.Ytafhpplhlmlfhaa.Dm
/- Plain mathematics for the laws of sums and differences: no program in it. -/
namespace Go.Proofs.Ytafhpplhlmlfhaa.Dm
def neg3 (r : Int × Int × Bool) : Int × Int × Bool := (-r.1, r.2.1, r.2.2)
theorem strip_neg (k : Nat) : ∀ m e : Int, strip k (-m) e = (-(strip k m e).1, (strip k m e).2) := by
  induction k with
  | zero => intro m e; rfl
  | succ k ih =>
    intro m e
    rw [strip, strip, Int.neg_tmod, Int.neg_tdiv]
    by_cases h : m.tmod 10 = 0
    · rw [if_pos h, if_pos (by omega), ih]
    · rw [if_neg h, if_neg (by omega)]
theorem norm_neg (m e : Int) : norm (-m) e = neg3 (norm m e) := by
  unfold norm neg3
  by_cases h : m = 0
  · subst h; simp
  · rw [if_neg h, if_neg (by omega), strip_neg, ok_neg]
    by_cases ho : ok (strip 20 m e).1 (strip 20 m e).2 = true
    · rw [if_pos ho, if_pos ho]
    · rw [if_neg ho, if_neg ho]; rfl
theorem new_neg (m e : Int) : new (-m) e = neg3 (new m e) := by
  unfold new
  by_cases h : (-100000000000000000 ≤ m ∧ m ≤ 100000000000000000) ∧ (-32 ≤ e ∧ e ≤ 32)
  · rw [if_pos h, if_pos (by omega), norm_neg]
  · rw [if_neg h, if_neg (by omega)]; rfl
theorem manAt_neg (m x p : Int) : manAt (-m) x p = (-(manAt m x p).1, (manAt m x p).2) := by
  unfold manAt
  by_cases h : m = 0
  · subst h; simp
  · rw [if_neg h, if_neg (by omega)]
    by_cases h8 : 8 < x - p
    · rw [if_pos h8, if_pos h8]; rfl
    · rw [if_neg h8, if_neg h8, Int.neg_mul]
theorem add1_neg (m x n y : Int) : add1 (-m) x (-n) y = neg3 (add1 m x n y) := by
  unfold add1
  rw [manAt_neg, manAt_neg]
  by_cases h : (manAt m x (min x y)).2 = true ∧ (manAt n y (min x y)).2 = true
  · rw [if_pos h, if_pos h, ← Int.neg_add, new_neg]
  · rw [if_neg h, if_neg h]; rfl
theorem sub_swap (m x n y : Int) : sub n y m x = neg3 (sub m x n y) := by
  unfold sub
  by_cases h : ok m x = true ∧ ok n y = true
  · rw [if_pos h, if_pos ⟨h.2, h.1⟩, add_comm1, show n = -(-n) from by omega, add1_neg, Int.neg_neg]
  · rw [if_neg h, if_neg (fun k => h ⟨k.2, k.1⟩)]; rfl
theorem new_zero {x : Int} (h : -32 ≤ x ∧ x ≤ 32) : new 0 x = (0, 0, true) := by
  rw [new, if_pos ⟨⟨by omega, by omega⟩, h⟩]; rfl
theorem sub_self {m x : Int} (h : ok m x = true) : sub m x m x = (0, 0, true) := by
  have b := ok_bd h
  have e : min x x = x := by omega
  have hm : (manAt m x x).2 = true := by unfold manAt; by_cases h0 : m = 0 <;> simp [h0]
  rw [sub, if_pos ⟨h, h⟩, add1, e, manAt_neg, if_pos ⟨hm, hm⟩]
  rw [show (manAt m x x).1 + (-(manAt m x x).1, (manAt m x x).2).1 = 0 from by simp only; omega]
  exact new_zero (by omega)
theorem sub_ok {m x n y : Int} (h : (sub m x n y).2.2 = true) : ok m x = true ∧ ok n y = true := by
  unfold sub at h
  by_cases hh : ok m x = true ∧ ok n y = true
  · exact hh
  · rw [if_neg hh] at h; simp at h
theorem new_i64 (m e : Int) : -99999999 ≤ (new m e).1 ∧ (new m e).1 ≤ 99999999 := by
  unfold new
  by_cases h : (-100000000000000000 ≤ m ∧ m ≤ 100000000000000000) ∧ (-32 ≤ e ∧ e ≤ 32)
  · rw [if_pos h]; exact norm_i64 _ _
  · rw [if_neg h]; exact ⟨by decide, by decide⟩
theorem add1_i64 (m x n y : Int) : -99999999 ≤ (add1 m x n y).1 ∧ (add1 m x n y).1 ≤ 99999999 := by
  unfold add1
  by_cases h : (manAt m x (min x y)).2 = true ∧ (manAt n y (min x y)).2 = true
  · rw [if_pos h]; exact new_i64 _ _
  · rw [if_neg h]; exact ⟨by decide, by decide⟩
theorem sub_i64 (m x n y : Int) : -99999999 ≤ (sub m x n y).1 ∧ (sub m x n y).1 ≤ 99999999 := by
  unfold sub
  by_cases h : ok m x = true ∧ ok n y = true
  · rw [if_pos h]; exact add1_i64 _ _ _ _
  · rw [if_neg h]; exact ⟨by decide, by decide⟩
theorem mul_comm3 (m x n y : Int) : mul n y m x = mul m x n y := by
  unfold mul
  by_cases h : ok m x = true ∧ ok n y = true
  · rw [if_pos h, if_pos ⟨h.2, h.1⟩, Int.mul_comm, Int.add_comm]
  · rw [if_neg h, if_neg (fun k => h ⟨k.2, k.1⟩)]
theorem mul_one3 {m x : Int} (h : ok m x = true) : mul m x 1 0 = (m, x, true) := by
  rw [mul, if_pos ⟨h, by decide⟩, Int.mul_one, Int.add_zero, norm_self h]
theorem mul_zero3 {m x : Int} (h : ok m x = true) : mul m x 0 0 = (0, 0, true) := by
  rw [mul, if_pos ⟨h, by decide⟩, Int.mul_zero]; rfl
theorem add_comm3 (m x n y : Int) : add n y m x = add m x n y := by
  unfold add
  by_cases h : ok m x = true ∧ ok n y = true
  · rw [if_pos h, if_pos ⟨h.2, h.1⟩, add_comm1]
  · rw [if_neg h, if_neg (fun k => h ⟨k.2, k.1⟩)]
theorem add_zero3 {m x : Int} (h : ok m x = true) : add m x 0 0 = (m, x, true) := by
  rw [add, if_pos ⟨h, by decide⟩, add_comm1, add_zero_left h]
theorem add_ok {m x n y : Int} (h : (add m x n y).2.2 = true) : ok m x = true ∧ ok n y = true := by
  unfold add at h
  by_cases hh : ok m x = true ∧ ok n y = true
  · exact hh
  · rw [if_neg hh] at h; simp at h
end Go.Proofs.Ytafhpplhlmlfhaa.Dm
/- Plain mathematics of what a decimal is worth: no program in it. -/
namespace Go.Proofs.Ytafhpplhlmlfhaa.Dm
/-- what it is worth, far behind the last place -/
def big (m e : Int) : Int := m * p10 (e + 40)
theorem p10_ne (k : Int) : p10 k ≠ 0 := by have := p10_pos k; omega
theorem strip_big (k : Nat) : ∀ m e : Int, -40 ≤ e → big (strip k m e).1 (strip k m e).2 = big m e ∧ e ≤ (strip k m e).2 := by
  induction k with
  | zero => intro m e h; exact ⟨rfl, Int.le_refl _⟩
  | succ k ih =>
    intro m e h
    rw [strip]
    by_cases hz : m.tmod 10 = 0
    · rw [if_pos hz]
      obtain ⟨h1, h2⟩ := ih (m.tdiv 10) (e + 1) (by omega)
      refine ⟨?_, by omega⟩
      rw [h1, big, big, show e + 1 + 40 = (e + 40) + 1 from by omega, p10_succ _ (by omega), Int.mul_comm (p10 (e + 40)) 10, ← Int.mul_assoc]
      have := tm m
      rw [hz] at this
      rw [show m.tdiv 10 * 10 = m from by omega]
    · rw [if_neg hz]; exact ⟨rfl, Int.le_refl _⟩
theorem norm_big_eq {m e : Int} (he : -40 ≤ e) (h : (norm m e).2.2 = true) : big (norm m e).1 (norm m e).2.1 = big m e := by
  unfold norm at h ⊢
  by_cases h0 : m = 0
  · rw [if_pos h0]; subst h0; simp [big]
  · rw [if_neg h0] at h ⊢
    by_cases ho : ok (strip 20 m e).1 (strip 20 m e).2 = true
    · rw [if_pos ho]; exact (strip_big 20 m e he).1
    · rw [if_neg ho] at h; simp at h
theorem big_at {m x p : Int} (hp : p ≤ x) (hp2 : -40 ≤ p) : big m x = m * p10 (x - p) * p10 (p + 40) := by
  rw [big, Int.mul_assoc, ← p10_add (by omega) (by omega)]; congr 2; omega
theorem p10_cancel {a b k : Int} (h : a * p10 k = b * p10 k) : a = b := Int.eq_of_mul_eq_mul_right (p10_ne k) h
/-- two in their form that are worth the same are the same -/
theorem ok_unique {m x n y : Int} (hm : ok m x = true) (hn : ok n y = true) (h : big m x = big n y) : m = n ∧ x = y := by
  have bm := ok_bd hm
  have bn := ok_bd hn
  have key : ∀ {m x n y : Int}, ok m x = true → ok n y = true → big m x = big n y → x < y → m = n ∧ x = y := by
    intro m x n y hm hn h hlt
    have bm := ok_bd hm
    have bn := ok_bd hn
    rw [big_at (m := n) (x := y) (p := x) (by omega) (by omega), big] at h
    have e := p10_cancel h
    by_cases hm0 : m = 0
    · have hn0 : n = 0 := by
        rw [hm0] at e
        rcases Int.mul_eq_zero.1 e.symm with h | h
        · exact h
        · exact absurd h (p10_ne _)
      rw [ok_iff] at hm hn; omega
    · exact absurd (e ▸ p10_tmod (y - x) (by omega) n) (ok_ne hm hm0)
  rcases Int.lt_trichotomy x y with h1 | h1 | h1
  · exact key hm hn h h1
  · subst h1; exact ⟨p10_cancel h, rfl⟩
  · obtain ⟨a, b⟩ := key hn hm h.symm h1; exact ⟨a.symm, b.symm⟩
/-- of what the number was made: so many noughts more -/
theorem norm_pow_eq {m e : Int} (he : -40 ≤ e) (hm : m ≠ 0) (h : (norm m e).2.2 = true) : e ≤ (norm m e).2.1 ∧ m = (norm m e).1 * p10 ((norm m e).2.1 - e) := by
  have hb := norm_big_eq he h
  have hle : e ≤ (norm m e).2.1 := by
    unfold norm at h ⊢
    rw [if_neg hm] at h ⊢
    by_cases ho : ok (strip 20 m e).1 (strip 20 m e).2 = true
    · rw [if_pos ho]; exact (strip_big 20 m e he).2
    · rw [if_neg ho] at h; simp at h
  refine ⟨hle, ?_⟩
  rw [big_at (p := e) hle he, big] at hb
  exact (p10_cancel hb).symm
theorem mul_mono {k a b : Int} (h : a ≤ b) : (k * p10 a).natAbs ≤ (k * p10 b).natAbs := by
  rw [Int.natAbs_mul, Int.natAbs_mul]
  have h1 := p10_mono h
  have h2 := p10_pos a
  exact Nat.mul_le_mul_left _ (by omega)
theorem new_facts {m x : Int} (h : (new m x).2.2 = true) : (m ≠ 0 → x ≤ (new m x).2.1 ∧ m = (new m x).1 * p10 ((new m x).2.1 - x)) ∧ ok (new m x).1 (new m x).2.1 = true ∧ (m ≠ 0 → (new m x).1.tmod 10 ≠ 0) ∧ (m = 0 → (new m x).1 = 0 ∧ (new m x).2.1 = 0) := by
  have hr : (-100000000000000000 ≤ m ∧ m ≤ 100000000000000000) ∧ (-32 ≤ x ∧ x ≤ 32) := by
    unfold new at h
    by_cases hh : (-100000000000000000 ≤ m ∧ m ≤ 100000000000000000) ∧ (-32 ≤ x ∧ x ≤ 32)
    · exact hh
    · rw [if_neg hh] at h; simp at h
  have e : new m x = norm m x := by rw [new, if_pos hr]
  rw [e] at h ⊢
  refine ⟨fun h0 => norm_pow_eq (by omega) h0 h, norm_ok h, fun h0 => ?_, fun h0 => ?_⟩
  · refine ok_ne (norm_ok h) (fun hz => ?_)
    have := (norm_pow_eq (e := x) (by omega) h0 h).2
    rw [hz] at this; omega
  · subst h0; exact ⟨rfl, rfl⟩
end Go.Proofs.Ytafhpplhlmlfhaa.Dm
/- Plain mathematics of sums of three and of products of sums: no program in it. -/
namespace Go.Proofs.Ytafhpplhlmlfhaa.Dm
theorem new_norm_of {m e : Int} (h : (new m e).2.2 = true) : new m e = norm m e := by
  unfold new at h ⊢
  by_cases hh : (-100000000000000000 ≤ m ∧ m ≤ 100000000000000000) ∧ (-32 ≤ e ∧ e ≤ 32)
  · rw [if_pos hh]
  · rw [if_neg hh] at h; simp at h
theorem manAt_bigv {m x p : Int} (hp : p ≤ x) (hp2 : -40 ≤ p) (h : (manAt m x p).2 = true) : (manAt m x p).1 * p10 (p + 40) = big m x := by
  rw [big_at hp hp2]
  unfold manAt at h ⊢
  by_cases h0 : m = 0
  · rw [if_pos h0]; subst h0; simp
  · rw [if_neg h0] at h ⊢
    by_cases h8 : 8 < x - p
    · rw [if_pos h8] at h; simp at h
    · rw [if_neg h8]
theorem add_val {m x n y : Int} (h : (add m x n y).2.2 = true) : ok m x = true ∧ ok n y = true ∧ ok (add m x n y).1 (add m x n y).2.1 = true ∧ big (add m x n y).1 (add m x n y).2.1 = big m x + big n y := by
  obtain ⟨hm, hn⟩ := add_ok h
  have bm := ok_bd hm
  have bn := ok_bd hn
  refine ⟨hm, hn, ?_⟩
  have e : add m x n y = add1 m x n y := by rw [add, if_pos ⟨hm, hn⟩]
  rw [e] at h ⊢
  unfold add1 at h ⊢
  by_cases hc : (manAt m x (min x y)).2 = true ∧ (manAt n y (min x y)).2 = true
  · rw [if_pos hc] at h ⊢
    have en := new_norm_of h
    rw [en] at h ⊢
    refine ⟨norm_ok h, ?_⟩
    rw [norm_big_eq (by omega) h, big, Int.add_mul, manAt_bigv (by omega) (by omega) hc.1, manAt_bigv (by omega) (by omega) hc.2]
  · rw [if_neg hc] at h; simp at h
theorem mul_val {m x n y : Int} (h : (mul m x n y).2.2 = true) : ok m x = true ∧ ok n y = true ∧ ok (mul m x n y).1 (mul m x n y).2.1 = true ∧ big (mul m x n y).1 (mul m x n y).2.1 * p10 40 = big m x * big n y := by
  have hh : ok m x = true ∧ ok n y = true := by
    unfold mul at h
    by_cases hh : ok m x = true ∧ ok n y = true
    · exact hh
    · rw [if_neg hh] at h; simp at h
  obtain ⟨hm, hn⟩ := hh
  have bm := ok_bd hm
  have bn := ok_bd hn
  refine ⟨hm, hn, ?_⟩
  have e : mul m x n y = norm (m * n) (x + y) := by rw [mul, if_pos ⟨hm, hn⟩]
  rw [e] at h ⊢
  refine ⟨norm_ok h, ?_⟩
  rw [norm_big_eq (by omega) h]
  unfold big
  have e1 : p10 (x + 40) * p10 (y + 40) = p10 (x + y + 40) * p10 40 := by
    rw [← p10_add (by omega) (by omega), ← p10_add (by omega) (by omega)]; congr 1; omega
  rw [Int.mul_assoc (m * n), ← e1, Int.mul_assoc, Int.mul_assoc, ← Int.mul_assoc n, Int.mul_comm n (p10 (x + 40)), Int.mul_assoc]
theorem eq_of_big {r s : Int × Int × Bool} (hr : r.2.2 = true) (hs : s.2.2 = true) (h1 : ok r.1 r.2.1 = true) (h2 : ok s.1 s.2.1 = true) (h : big r.1 r.2.1 = big s.1 s.2.1) : r = s := by
  obtain ⟨a, b, c⟩ := r
  obtain ⟨d, e, f⟩ := s
  simp only at *
  obtain ⟨e1, e2⟩ := ok_unique h1 h2 h
  rw [e1, e2, hr, hs]
/-- three together, whichever two are first -/
theorem add_assoc3 {m x n y c z : Int} (h1 : (add m x n y).2.2 = true) (h2 : (add n y c z).2.2 = true)
    (h3 : (add (add m x n y).1 (add m x n y).2.1 c z).2.2 = true) (h4 : (add m x (add n y c z).1 (add n y c z).2.1).2.2 = true) :
    add m x (add n y c z).1 (add n y c z).2.1 = add (add m x n y).1 (add m x n y).2.1 c z := by
  obtain ⟨_, _, _, a4⟩ := add_val h1
  obtain ⟨_, _, _, b4⟩ := add_val h2
  obtain ⟨_, _, c3, c4⟩ := add_val h3
  obtain ⟨_, _, d3, d4⟩ := add_val h4
  exact eq_of_big h4 h3 d3 c3 (by rw [c4, d4, a4, b4]; omega)
/-- a sum taken so often is both taken so often, together -/
theorem mul_add3 {m x n y c z : Int} (h1 : (add m x n y).2.2 = true) (h2 : (mul (add m x n y).1 (add m x n y).2.1 c z).2.2 = true)
    (h3 : (mul m x c z).2.2 = true) (h4 : (mul n y c z).2.2 = true) (h5 : (add (mul m x c z).1 (mul m x c z).2.1 (mul n y c z).1 (mul n y c z).2.1).2.2 = true) :
    add (mul m x c z).1 (mul m x c z).2.1 (mul n y c z).1 (mul n y c z).2.1 = mul (add m x n y).1 (add m x n y).2.1 c z := by
  obtain ⟨_, _, _, a4⟩ := add_val h1
  obtain ⟨_, _, b3, b4⟩ := mul_val h2
  obtain ⟨_, _, _, c4⟩ := mul_val h3
  obtain ⟨_, _, _, d4⟩ := mul_val h4
  obtain ⟨_, _, e3, e4⟩ := add_val h5
  refine eq_of_big h5 h2 e3 b3 (p10_cancel (k := 40) ?_)
  rw [e4, Int.add_mul, c4, d4, b4, a4, Int.add_mul]
end Go.Proofs.Ytafhpplhlmlfhaa.Dm
/- Plain mathematics: how the order of decimals goes with sums and differences. No program in it. -/
namespace Go.Proofs.Ytafhpplhlmlfhaa.Dm
theorem sgn_bd (v : Int) : -1 ≤ sgn v ∧ sgn v ≤ 1 := by
  rcases Int.lt_trichotomy v 0 with h | h | h
  · rw [sgn_neg h]; omega
  · subst h; rw [sgn_zero]; omega
  · rw [sgn_pos h]; omega
theorem cmp_bd (m x n y : Int) : -1 ≤ cmp m x n y ∧ cmp m x n y ≤ 1 := by
  unfold cmp
  split
  · exact sgn_bd _
  · omega
theorem big_val {m x : Int} (h : ok m x = true) : big m x = val m x * p10 32 := by
  have b := ok_bd h
  rw [big, val, Int.mul_assoc, ← p10_add (by omega) (by omega)]; congr 2; omega
theorem cmp_big {m x n y : Int} (hm : ok m x = true) (hn : ok n y = true) : cmp m x n y = sgn (big m x - big n y) := by
  rw [cmp, if_pos ⟨hm, hn⟩, big_val hm, big_val hn, ← Int.sub_mul, sgn_mul (p10_pos _)]
theorem big_sgn (m x : Int) : sgn (big m x) = sgn m := by rw [big, sgn_mul (p10_pos _)]
theorem sgn_iff (v : Int) : (sgn v < 0 ↔ v < 0) ∧ (0 < sgn v ↔ 0 < v) ∧ (sgn v = 0 ↔ v = 0) := by
  rcases Int.lt_trichotomy v 0 with h | h | h
  · rw [sgn_neg h]; omega
  · subst h; rw [sgn_zero]; omega
  · rw [sgn_pos h]; omega
theorem cmp_zero {m x n y : Int} (hm : ok m x = true) (hn : ok n y = true) : cmp m x n y = 0 ↔ (m = n ∧ x = y) := by
  rw [cmp_big hm hn, (sgn_iff _).2.2]
  constructor
  · intro h; exact ok_unique hm hn (by omega)
  · rintro ⟨rfl, rfl⟩; omega
theorem big_neg (n y : Int) : big (-n) y = -big n y := by rw [big, big, Int.neg_mul]
theorem sub_val {m x n y : Int} (h : (sub m x n y).2.2 = true) : ok m x = true ∧ ok n y = true ∧ ok (sub m x n y).1 (sub m x n y).2.1 = true ∧ big (sub m x n y).1 (sub m x n y).2.1 = big m x - big n y := by
  have o := sub_ok h
  rw [← sub_add] at h ⊢
  obtain ⟨_, _, a3, a4⟩ := add_val h
  exact ⟨o.1, o.2, a3, by rw [a4, big_neg]; omega⟩
theorem sub_sgn {m x n y : Int} (h : (sub m x n y).2.2 = true) : ((sub m x n y).1 < 0 ↔ cmp m x n y < 0) ∧ (0 < (sub m x n y).1 ↔ 0 < cmp m x n y) := by
  obtain ⟨h1, h2, _, h4⟩ := sub_val h
  have e : sgn (sub m x n y).1 = cmp m x n y := by rw [cmp_big h1 h2, ← h4, big_sgn]
  have := sgn_iff (sub m x n y).1
  rw [← e]
  exact ⟨this.1.symm, this.2.1.symm⟩
theorem cmp_trans {m x n y c z : Int} (hm : ok m x = true) (hn : ok n y = true) (hc : ok c z = true) (h1 : cmp m x n y ≤ 0) (h2 : cmp n y c z ≤ 0) : cmp m x c z ≤ 0 := by
  rw [cmp_big hm hn] at h1
  rw [cmp_big hn hc] at h2
  rw [cmp_big hm hc]
  have s1 := sgn_iff (big m x - big n y)
  have s2 := sgn_iff (big n y - big c z)
  have s3 := sgn_iff (big m x - big c z)
  omega
theorem cmp_add {m x n y c z : Int} (h1 : (add m x c z).2.2 = true) (h2 : (add n y c z).2.2 = true) :
    cmp (add m x c z).1 (add m x c z).2.1 (add n y c z).1 (add n y c z).2.1 = cmp m x n y := by
  obtain ⟨a1, a2, a3, a4⟩ := add_val h1
  obtain ⟨b1, b2, b3, b4⟩ := add_val h2
  rw [cmp_big a3 b3, cmp_big a1 b1, a4, b4]
  congr 1; omega
end Go.Proofs.Ytafhpplhlmlfhaa.Dm
/- How two values stand to each other: the mathematics. -/
namespace Go.Proofs.Ytafhpplhlmlfhaa
open Go.RowKit
/-- how two texts stand to each other -/
def tord (a b : ByteArray) : Int := Lib.compareBytes a.data.toList b.data.toList
theorem cb_cases : ∀ (a b : List UInt8), (Lib.compareBytes a b = -1 ∧ Op.bytesLess a b = true ∧ Op.bytesLess b a = false ∧ a ≠ b) ∨ (Lib.compareBytes a b = 1 ∧ Op.bytesLess a b = false ∧ Op.bytesLess b a = true ∧ a ≠ b) ∨ (Lib.compareBytes a b = 0 ∧ Op.bytesLess a b = false ∧ Op.bytesLess b a = false ∧ a = b) := by
  intro a
  induction a with
  | nil => intro b; cases b with
    | nil => exact .inr (.inr ⟨rfl, rfl, rfl, rfl⟩)
    | cons y b => exact .inl ⟨rfl, rfl, rfl, fun e => by cases e⟩
  | cons x a ih =>
    intro b
    cases b with
    | nil => exact .inr (.inl ⟨rfl, rfl, rfl, fun e => by cases e⟩)
    | cons y b =>
      have e1 : Lib.compareBytes (x :: a) (y :: b) = if x < y then -1 else if y < x then 1 else Lib.compareBytes a b := rfl
      have e2 : Op.bytesLess (x :: a) (y :: b) = (decide (x < y) || (x == y && Op.bytesLess a b)) := rfl
      have e3 : Op.bytesLess (y :: b) (x :: a) = (decide (y < x) || (y == x && Op.bytesLess b a)) := rfl
      rw [e1, e2, e3]
      by_cases h1 : x < y
      · have h2 : ¬ y < x := by rw [UInt8.lt_iff_toNat_lt] at h1 ⊢; omega
        have h3 : ¬ x = y := fun e => by subst e; rw [UInt8.lt_iff_toNat_lt] at h1; omega
        have h4 : ¬ y = x := fun e => h3 e.symm
        exact .inl ⟨by simp [h1], by simp [h1], by simp [h2, h4], fun e => h3 (by cases e; rfl)⟩
      · by_cases h2 : y < x
        · have h3 : ¬ x = y := fun e => by subst e; exact h1 h2
          have h4 : ¬ y = x := fun e => h3 e.symm
          exact .inr (.inl ⟨by simp [h1, h2], by simp [h1, h3], by simp [h2], fun e => h3 (by cases e; rfl)⟩)
        · have h3 : x = y := by
            apply UInt8.toNat_inj.1
            rw [UInt8.lt_iff_toNat_lt] at h1 h2
            omega
          subst h3
          rcases ih b with ⟨p1, p2, p3, p4⟩ | ⟨p1, p2, p3, p4⟩ | ⟨p1, p2, p3, p4⟩
          · exact .inl ⟨by simp [p1, h1], by simp [p2], by simp [p3, h1], fun e => p4 (by cases e; rfl)⟩
          · exact .inr (.inl ⟨by simp [p1, h1], by simp [p2, h1], by simp [p3], fun e => p4 (by cases e; rfl)⟩)
          · exact .inr (.inr ⟨by simp [p1, h1], by simp [p2, h1], by simp [p3, h1], by rw [p4]⟩)
theorem tord_cases (a b : ByteArray) : (tord a b = -1 ∧ Op.bytesLess a.toList b.toList = true ∧ Op.bytesLess b.toList a.toList = false ∧ a ≠ b) ∨ (tord a b = 1 ∧ Op.bytesLess a.toList b.toList = false ∧ Op.bytesLess b.toList a.toList = true ∧ a ≠ b) ∨ (tord a b = 0 ∧ Op.bytesLess a.toList b.toList = false ∧ Op.bytesLess b.toList a.toList = false ∧ a = b) := by
  unfold tord
  rw [ByteArray.toList_eq, ByteArray.toList_eq]
  rcases cb_cases a.data.toList b.data.toList with ⟨p1, p2, p3, p4⟩ | ⟨p1, p2, p3, p4⟩ | ⟨p1, p2, p3, p4⟩
  · exact .inl ⟨p1, p2, p3, fun e => p4 (by rw [e])⟩
  · exact .inr (.inl ⟨p1, p2, p3, fun e => p4 (by rw [e])⟩)
  · exact .inr (.inr ⟨p1, p2, p3, ByteArray.ext (Array.toList_inj.1 p4)⟩)
theorem tord_zero {a b : ByteArray} : tord a b = 0 ↔ a = b := by
  rcases tord_cases a b with ⟨p1, _, _, p4⟩ | ⟨p1, _, _, p4⟩ | ⟨p1, _, _, p4⟩
  · rw [p1]; exact ⟨fun h => by omega, fun h => absurd h p4⟩
  · rw [p1]; exact ⟨fun h => by omega, fun h => absurd h p4⟩
  · exact ⟨fun _ => p4, fun _ => p1⟩
/-- the heads of two values -/
def hord (h g : Hd) : Int := if h.k = g.k then (if h.m = g.m ∧ h.e = g.e then tord h.t g.t else Dm.cmp h.m h.e g.m g.e) else Dm.sgn (h.k - g.k)
def nmAt (ns : List ByteArray) (i : Nat) : ByteArray := ns.getD i ⟨#[]⟩
theorem nmAt_some {ns : List ByteArray} {i : Nat} (h : i < ns.length) : ns[i]? = some (nmAt ns i) := by
  unfold nmAt
  rw [List.getElem?_eq_getElem h, List.getD_eq_getElem?_getD, List.getElem?_eq_getElem h]; rfl
/-- one place of two lists -/
def pord (f : Hd → Vo → Hd → Vo → Int) (ob : Bool) (ns ms : List ByteArray) (F G : Vo) (i : Nat) : Int :=
  if ob = true ∧ nmAt ns i ≠ nmAt ms i then tord (nmAt ns i) (nmAt ms i) else f (F.hdAt i) (F.kidsAt i) (G.hdAt i) (G.kidsAt i)
/-- so many places, from this one on -/
def ford (f : Hd → Vo → Hd → Vo → Int) (ob : Bool) (ns ms : List ByteArray) (F G : Vo) : Nat → Nat → Int
  | 0, _ => Dm.sgn ((F.len : Int) - (G.len : Int))
  | n + 1, i => if pord f ob ns ms F G i = 0 then ford f ob ns ms F G n (i + 1) else pord f ob ns ms F G i
/-- two values -/
def vord : Nat → Hd → Vo → Hd → Vo → Int
  | 0, _, _, _, _ => 0
  | N + 1, h, F, g, G => if hord h g = 0 then ford (vord N) (h.k == 6) h.ns g.ns F G (min F.len G.len) 0 else hord h g
theorem hord_same {h h' g g' : Hd} (x : h.same h') (y : g.same g') : hord h g = hord h' g' := by
  obtain ⟨⟨a, b, c, d⟩, _⟩ := x
  obtain ⟨⟨a', b', c', d'⟩, _⟩ := y
  unfold hord
  rw [a, b, c, d, a', b', c', d']
theorem alike_at : ∀ {F G : Vo} (i : Nat), F.alike G → (F.hdAt i).same (G.hdAt i) ∧ (F.kidsAt i).alike (G.kidsAt i) := by
  intro F
  induction F with
  | nil => intro G i h; cases G with
    | nil => exact ⟨Hd.same_refl _, trivial⟩
    | cons => exact h.elim
  | cons h a c kids next _ ih =>
    intro G i x
    cases G with
    | nil => exact x.elim
    | cons h' a' c' kids' next' =>
      cases i with
      | zero => exact ⟨x.1, x.2.1⟩
      | succ i => exact ih i x.2.2
theorem vord_alike : ∀ (N : Nat) {h h' g g' : Hd} {F F' G G' : Vo}, h.same h' → F.alike F' → g.same g' → G.alike G' → vord N h F g G = vord N h' F' g' G' := by
  intro N
  induction N with
  | zero => intros; rfl
  | succ N ih =>
    intro h h' g g' F F' G G' x1 x2 y1 y2
    have e : ∀ n i, ford (vord N) (h.k == 6) h.ns g.ns F G n i = ford (vord N) (h'.k == 6) h'.ns g'.ns F' G' n i := by
      intro n
      induction n with
      | zero => intro i; show Dm.sgn _ = Dm.sgn _; rw [Vo.alike_len x2, Vo.alike_len y2]
      | succ n ih2 =>
        intro i
        have e1 : pord (vord N) (h.k == 6) h.ns g.ns F G i = pord (vord N) (h'.k == 6) h'.ns g'.ns F' G' i := by
          unfold pord
          rw [x1.1.1, x1.2, y1.2, ih (alike_at i x2).1 (alike_at i x2).2 (alike_at i y2).1 (alike_at i y2).2]
        show (if _ then _ else _) = (if _ then _ else _)
        rw [e1, ih2]
    show (if _ then _ else _) = (if _ then _ else _)
    rw [hord_same x1 y1, e, Vo.alike_len x2, Vo.alike_len y2]
theorem one_dec {h : Hd} {n : Nat} (x : one h n) : Dm.ok h.m h.e = true := by
  rcases x with ⟨_, ⟨⟨h1, h2, _⟩, _⟩, _⟩ | ⟨_, h1, _⟩ | ⟨_, _, ⟨h1, h2, _⟩, _⟩ | ⟨_, ⟨h1, h2, _⟩, _⟩ | ⟨_, _, h1, h2, _⟩
  · rw [h1, h2]; rfl
  · exact h1
  · rw [h1, h2]; rfl
  · rw [h1, h2]; rfl
  · rw [h1, h2]; rfl
theorem one_names {h : Hd} {n : Nat} (x : one h n) (hk : h.k = 6) : h.ns.length = n := by
  rcases x with ⟨h1, _⟩ | ⟨h1, _⟩ | ⟨h1, _⟩ | ⟨h1, _⟩ | ⟨_, ⟨h1, _⟩, _⟩
  · omega
  · omega
  · omega
  · omega
  · exact h1
theorem one_kind {h : Hd} {n : Nat} (x : one h n) : 0 ≤ h.k ∧ h.k ≤ 6 := by
  rcases x with ⟨h1, _⟩ | ⟨h1, _⟩ | ⟨h1, _⟩ | ⟨h1, _⟩ | ⟨h1, _⟩ <;> omega
theorem allOne_at : ∀ {F : Vo} {i : Nat}, i < F.len → F.allOne → one (F.hdAt i) (F.kidsAt i).len ∧ (F.kidsAt i).allOne := by
  intro F
  induction F with
  | nil => intro i h; exact absurd h (Nat.not_lt_zero _)
  | cons h a c kids next _ ih =>
    rintro i hi ⟨h1, h2, h3⟩
    cases i with
    | zero => exact ⟨h1, h2⟩
    | succ i => exact ih (show i < next.len from Nat.lt_of_succ_lt_succ hi) h3
theorem hord_dec {h g : Hd} (hk : h.k = g.k) (hm : Dm.ok h.m h.e = true) (hn : Dm.ok g.m g.e = true) : hord h g = if Dm.cmp h.m h.e g.m g.e = 0 then tord h.t g.t else Dm.cmp h.m h.e g.m g.e := by
  unfold hord
  rw [if_pos hk]
  by_cases e : h.m = g.m ∧ h.e = g.e
  · rw [if_pos e, if_pos ((Dm.cmp_zero hm hn).2 e)]
  · rw [if_neg e, if_neg (fun x => e ((Dm.cmp_zero hm hn).1 x))]
end Go.Proofs.Ytafhpplhlmlfhaa
