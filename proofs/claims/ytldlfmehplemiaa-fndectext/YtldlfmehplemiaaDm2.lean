/- Plain mathematics of the quotient: no program in it. -/
import Derived.Test.YtldlfmehplemiaaDm
namespace Go.Proofs.Ytldlfmehplemiaa.Dm
/-- so many noughts brought down, one by one -/
def qloop : Nat → Int → Int → Int → Int × Bool
  | 0, c, _, _ => (c, true)
  | k + 1, c, r, m => if -100000000000000000 ≤ c * 10 + (r * 10).tdiv m ∧ c * 10 + (r * 10).tdiv m ≤ 100000000000000000 then qloop k (c * 10 + (r * 10).tdiv m) ((r * 10).tmod m) m else (0, false)
def qdown : Nat → Int → Int
  | 0, c => c
  | k + 1, c => qdown k (c.tdiv 10)
def quotFrom (p c r m : Int) : Int × Bool := if 0 < p then qloop p.toNat c r m else (qdown (-p).toNat c, true)
def quot (n m e : Int) : Int × Bool := quotFrom e (n.tdiv m) (n.tmod m) m
theorem quotFrom_up {p c r m : Int} (h : 0 < p) : quotFrom p c r m = if -100000000000000000 ≤ c * 10 + (r * 10).tdiv m ∧ c * 10 + (r * 10).tdiv m ≤ 100000000000000000 then quotFrom (p - 1) (c * 10 + (r * 10).tdiv m) ((r * 10).tmod m) m else (0, false) := by
  rw [quotFrom, if_pos h, show p.toNat = (p - 1).toNat + 1 from by omega, qloop]
  by_cases hc : -100000000000000000 ≤ c * 10 + (r * 10).tdiv m ∧ c * 10 + (r * 10).tdiv m ≤ 100000000000000000
  · rw [if_pos hc, if_pos hc, quotFrom]
    by_cases h1 : 0 < p - 1
    · rw [if_pos h1]
    · rw [if_neg h1, show (p - 1).toNat = 0 from by omega, show (-(p - 1)).toNat = 0 from by omega, qloop, qdown]
  · rw [if_neg hc, if_neg hc]
theorem quotFrom_down {p c r m : Int} (h : p < 0) : quotFrom p c r m = quotFrom (p + 1) (c.tdiv 10) r m := by
  rw [quotFrom, if_neg (by omega), quotFrom, if_neg (by omega), show (-p).toNat = (-(p + 1)).toNat + 1 from by omega, qdown]
theorem quotFrom_end (c r m : Int) : quotFrom 0 c r m = (c, true) := rfl
theorem tdiv_bd (a m : Int) (h : m ≠ 0) : (a.tdiv m).natAbs ≤ a.natAbs ∧ (a.tmod m).natAbs < m.natAbs := by
  refine ⟨?_, ?_⟩
  · rw [Int.natAbs_tdiv]; exact Nat.div_le_self _ _
  · rw [Int.natAbs_tmod]; exact Nat.mod_lt _ (by omega)
theorem step_bd (r m : Int) (hr : r.natAbs < m.natAbs) : -10 ≤ (r * 10).tdiv m ∧ (r * 10).tdiv m ≤ 10 := by
  have e : ((r * 10).tdiv m).natAbs = (r.natAbs * 10) / m.natAbs := by rw [Int.natAbs_tdiv, Int.natAbs_mul]; rfl
  have : (r.natAbs * 10) / m.natAbs ≤ 10 := by
    apply Nat.div_le_of_le_mul; rw [Nat.mul_comm]; exact Nat.mul_le_mul_left 10 (Nat.le_of_lt hr) |> (fun h => by omega)
  omega
theorem qloop_negl (k : Nat) : ∀ c r m : Int, qloop k (-c) (-r) m = (-(qloop k c r m).1, (qloop k c r m).2) := by
  induction k with
  | zero => intro c r m; rfl
  | succ k ih =>
    intro c r m
    have e : -c * 10 + (-r * 10).tdiv m = -(c * 10 + (r * 10).tdiv m) := by
      rw [Int.neg_mul r 10, Int.neg_tdiv]; omega
    have e2 : (-r * 10).tmod m = -((r * 10).tmod m) := by rw [Int.neg_mul, Int.neg_tmod]
    rw [qloop, qloop, e, e2]
    by_cases hc : -100000000000000000 ≤ c * 10 + (r * 10).tdiv m ∧ c * 10 + (r * 10).tdiv m ≤ 100000000000000000
    · rw [if_pos hc, if_pos (by omega), ih]
    · rw [if_neg hc, if_neg (by omega)]; rfl
theorem qloop_negr (k : Nat) : ∀ c r m : Int, qloop k (-c) r (-m) = (-(qloop k c r m).1, (qloop k c r m).2) := by
  induction k with
  | zero => intro c r m; rfl
  | succ k ih =>
    intro c r m
    have e : -c * 10 + (r * 10).tdiv (-m) = -(c * 10 + (r * 10).tdiv m) := by
      rw [Int.tdiv_neg]; omega
    have e2 : (r * 10).tmod (-m) = (r * 10).tmod m := Int.tmod_neg _ _
    rw [qloop, qloop, e, e2]
    by_cases hc : -100000000000000000 ≤ c * 10 + (r * 10).tdiv m ∧ c * 10 + (r * 10).tdiv m ≤ 100000000000000000
    · rw [if_pos hc, if_pos (by omega), ih]
    · rw [if_neg hc, if_neg (by omega)]; rfl
theorem qdown_neg (k : Nat) : ∀ c : Int, qdown k (-c) = -(qdown k c) := by
  induction k with
  | zero => intro c; rfl
  | succ k ih => intro c; rw [qdown, qdown, Int.neg_tdiv, ih]
theorem quot_negl (n m e : Int) : quot (-n) m e = (-(quot n m e).1, (quot n m e).2) := by
  rw [quot, quot, quotFrom, quotFrom, Int.neg_tdiv, Int.neg_tmod]
  by_cases h : 0 < e
  · rw [if_pos h, if_pos h, qloop_negl]
  · rw [if_neg h, if_neg h, qdown_neg]
theorem quot_negr (n m e : Int) : quot n (-m) e = (-(quot n m e).1, (quot n m e).2) := by
  rw [quot, quot, quotFrom, quotFrom, Int.tdiv_neg, Int.tmod_neg]
  by_cases h : 0 < e
  · rw [if_pos h, if_pos h, qloop_negr]
  · rw [if_neg h, if_neg h, qdown_neg]
/-- DecDiv of two in their form, the second not 0 -/
def div1 (m x n y p : Int) : Int × Int × Bool := if (quot m n (x - y + p)).2 = true then norm (quot m n (x - y + p)).1 (-p) else (0, 0, false)
def div (m x n y p : Int) : Int × Int × Bool := if ok m x = true ∧ ok n y = true ∧ n ≠ 0 ∧ 0 ≤ p ∧ p ≤ 8 then div1 m x n y p else (0, 0, false)
theorem qloop_bd (k : Nat) : ∀ c r m : Int, -100000000000000000 ≤ c → c ≤ 100000000000000000 → -100000000000000000 ≤ (qloop k c r m).1 ∧ (qloop k c r m).1 ≤ 100000000000000000 := by
  induction k with
  | zero => intro c r m h1 h2; exact ⟨h1, h2⟩
  | succ k ih =>
    intro c r m h1 h2
    rw [qloop]
    by_cases hc : -100000000000000000 ≤ c * 10 + (r * 10).tdiv m ∧ c * 10 + (r * 10).tdiv m ≤ 100000000000000000
    · rw [if_pos hc]; exact ih _ _ _ hc.1 hc.2
    · rw [if_neg hc]; exact ⟨by decide, by decide⟩
theorem qdown_bd (k : Nat) : ∀ c : Int, -100000000000000000 ≤ c → c ≤ 100000000000000000 → -100000000000000000 ≤ qdown k c ∧ qdown k c ≤ 100000000000000000 := by
  induction k with
  | zero => intro c h1 h2; exact ⟨h1, h2⟩
  | succ k ih =>
    intro c h1 h2
    have := tdiv_bd c 10 (by omega)
    rw [qdown]; exact ih _ (by omega) (by omega)
theorem quot_bd {n m : Int} (e : Int) (hm : m ≠ 0) (h1 : -99999999 ≤ n) (h2 : n ≤ 99999999) : -100000000000000000 ≤ (quot n m e).1 ∧ (quot n m e).1 ≤ 100000000000000000 := by
  have := tdiv_bd n m hm
  rw [quot, quotFrom]
  by_cases h : 0 < e
  · rw [if_pos h]; exact qloop_bd _ _ _ _ (by omega) (by omega)
  · rw [if_neg h]; exact qdown_bd _ _ (by omega) (by omega)
end Go.Proofs.Ytldlfmehplemiaa.Dm
