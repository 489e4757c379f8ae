/- My own texts, joined: Fo Qm Dm Om OkI Za. -/
import Derived.Test.YtafhpplhlmlfhaaProg
import Derived.WalkKit
import Derived.Below
import Derived.Lib.SmallJoins
import Derived.RangeFuncNested
import Derived.RangeFuncBound
import Derived.RangeFuncCalls
import Derived.RangeFuncLeaves
import Derived.RangeFuncFrom
import Derived.RangeFuncBox
import Derived.Shelf.Abstract
import Derived.Shelf.RegionOpen
import Derived.OwnWalkIn
import Derived.TacticsInMore
import Derived.LoopNIn
import Derived.LoopIn
import Derived.OrdersIn
import Derived.OrdersHeld
import Derived.Deep.RegionHeld3
/- Trees: a list of trees as it lies in memory. Its first, what stands below the first, and the rest. -/
namespace Go.Proofs.Ytafhpplhlmlfhaa
open Go.RowKit
/-- a list of trees: kind, text, number, where its own list lies (with length and capacity), that list, the rest -/
inductive Fo
  | nil
  | cons (kind : Int) (text : ByteArray) (man exp : Int) (at_ : Option Addr) (cap : Nat) (kids : Fo) (next : Fo)
def Fo.len : Fo → Nat
  | .nil => 0
  | .cons _ _ _ _ _ _ _ next => next.len + 1
def Fo.size : Fo → Nat
  | .nil => 0
  | .cons _ _ _ _ _ _ kids next => kids.size + 1 + next.size
def Fo.deep : Fo → Nat
  | .nil => 0
  | .cons _ _ _ _ _ _ kids next => max (kids.deep + 1) next.deep
/-- what the laws' own measure counts -/
def Fo.wt : Fo → Nat
  | .nil => 0
  | .cons _ t _ _ _ _ kids next => t.size + kids.wt + 1 + next.wt
theorem Fo.len_wt (F : Fo) : F.len ≤ F.wt := by
  induction F with
  | nil => exact Nat.le_refl _
  | cons k t m e a c kids next _ ih => show next.len + 1 ≤ t.size + kids.wt + 1 + next.wt; omega
theorem Fo.size_wt (F : Fo) : F.size ≤ F.wt := by
  induction F with
  | nil => exact Nat.le_refl _
  | cons k t m e a c kids next ih1 ih2 => show kids.size + 1 + next.size ≤ t.size + kids.wt + 1 + next.wt; omega
/-- what is left, or -1 -/
def leftOf (need l : Nat) : Int := if need ≤ l then ((l - need : Nat) : Int) else -1
theorem Fo.len_le (F : Fo) : F.len ≤ F.size := by
  induction F with
  | nil => exact Nat.le_refl _
  | cons k t m e a c kids next _ ih => show next.len + 1 ≤ kids.size + 1 + next.size; omega
theorem Fo.deep_le (F : Fo) : F.deep ≤ F.size := by
  induction F with
  | nil => exact Nat.le_refl _
  | cons k t m e a c kids next ih1 ih2 => show max (kids.deep + 1) next.deep ≤ kids.size + 1 + next.size; omega
/-- the list lies from cell o of block b on -/
def Fo.From (w : World) : Fo → Nat → Nat → Prop
  | .nil, _, _ => True
  | .cons k t m e a c kids next, b, o =>
    (w.cell? ⟨b, o, none⟩ = some (.int .i64 k) ∧ w.cell? ⟨b, o + 1, none⟩ = some (.string t) ∧ w.cell? ⟨b, o + 2, none⟩ = some (.int .i64 m) ∧ w.cell? ⟨b, o + 3, none⟩ = some (.int .i64 e) ∧ w.cell? ⟨b, o + 4, none⟩ = some (.slice a kids.len c)) ∧
    (kids = .nil ∨ ∃ b' o', a = some ⟨b', o', none⟩ ∧ kids.From w b' o') ∧ kids.len ≤ c ∧ c ≤ maxLen ∧ t.size ≤ maxLen ∧ next.From w b (o + 5)
/-- the list of a slice -/
def Fo.In (w : World) (F : Fo) (a : Option Addr) : Prop := F = .nil ∨ ∃ b o, a = some ⟨b, o, none⟩ ∧ F.From w b o
theorem Fo.from_below {B : Nat} {w w' : World} (h : Below B w w') : ∀ (F : Fo) (b o : Nat), F.From w b o → (∀ b' o' v, w.cell? ⟨b', o', none⟩ = some v → b' < B) → F.From w' b o := by
  intro F
  induction F with
  | nil => intro b o _ _; trivial
  | cons k t m e a c kids next ih1 ih2 =>
    rintro b o ⟨⟨h1, h2, h3, h4, h5⟩, hk, hc, hm, ht, hn⟩ hlt
    have hb : b < B := hlt _ _ _ h1
    refine ⟨⟨(h.cell (p := ⟨b, o, none⟩) hb).trans h1, (h.cell (p := ⟨b, o + 1, none⟩) hb).trans h2, (h.cell (p := ⟨b, o + 2, none⟩) hb).trans h3, (h.cell (p := ⟨b, o + 3, none⟩) hb).trans h4, (h.cell (p := ⟨b, o + 4, none⟩) hb).trans h5⟩, ?_, hc, hm, ht, ih2 _ _ hn hlt⟩
    rcases hk with hk | ⟨b', o', e1, e2⟩
    · exact .inl hk
    · exact .inr ⟨b', o', e1, ih1 _ _ e2 hlt⟩
theorem Fo.from_grow {w w' : World} (h : Below w.heap.size w w') (F : Fo) (b o : Nat) (hF : F.From w b o) : F.From w' b o :=
  Fo.from_below h F b o hF fun _ _ _ hc => World.block_lt_of_cell? w _ hc
theorem Fo.In.grow {w w' : World} {F : Fo} {a : Option Addr} (hF : F.In w a) (h : Below w.heap.size w w') : F.In w' a := by
  rcases hF with rfl | ⟨b, o, rfl, hF⟩
  · exact .inl rfl
  · exact .inr ⟨b, o, rfl, Fo.from_grow h F b o hF⟩
/-- a tree's value -/
abbrev nodeV (k : Int) (t : ByteArray) (m e : Int) (a : Option Addr) (n c : Nat) : Value := .agg #[.int .i64 k, .string t, .int .i64 m, .int .i64 e, .slice a n c]

end Go.Proofs.Ytafhpplhlmlfhaa
/- Plain mathematics of chapter 2: letters, figures, runs, names, words. -/
namespace Go.Proofs.Ytafhpplhlmlfhaa.Qm

def low (c : Int) : Bool := (decide (97 ≤ c) && decide (c ≤ 122)) || decide (c = 95)
def fig (c : Int) : Bool := decide (48 ≤ c) && decide (c ≤ 57)
def part (c : Int) : Bool := low c || fig c
def okAt (k : Nat) (c : Int) : Bool := low c || (decide (k ≠ 0) && fig c)
def letters : Nat → List UInt8 → Bool
  | _, [] => true
  | k, c :: t => okAt k c.toNat && letters (k + 1) t
def run (p : Int → Bool) : List UInt8 → Nat
  | [] => 0
  | c :: t => if p c.toNat then 1 + run p t else 0
/-- the words that are no names -/
def words : List (List UInt8) := [[110, 117, 108, 108], [116, 114, 117, 101], [102, 97, 108, 115, 101], [105, 102], [116, 104, 101, 110], [101, 108, 115, 101], [108, 111, 99, 97, 108], [102, 117, 110, 99, 116, 105, 111, 110], [115, 101, 108, 102], [115, 117, 112, 101, 114], [101, 114, 114, 111, 114], [105, 109, 112, 111, 114, 116], [102, 111, 114], [105, 110], [115, 116, 100]]
def has : List (List UInt8) → List UInt8 → Bool
  | [], _ => false
  | x :: t, l => (l == x) || has t l
def name (s : ByteArray) : Bool := letters 0 s.data.toList && (decide (1 ≤ s.size) && decide (s.size ≤ 12)) && !has words s.toList

theorem len_eq (s : ByteArray) : s.data.toList.length = s.size := by rw [Array.length_toList]; rfl
theorem drop_at (s : ByteArray) (k : Nat) (h : k < s.size) : s.data.toList.drop k = s[k] :: s.data.toList.drop (k + 1) := by
  rw [List.drop_eq_getElem_cons (by simpa using h)]; rfl
theorem drop_end (s : ByteArray) (k : Nat) (h : ¬ k < s.size) : s.data.toList.drop k = [] := by
  apply List.drop_eq_nil_of_le; simpa using h
theorem letters_step (s : ByteArray) (k : Nat) (h : k < s.size) : letters k (s.data.toList.drop k) = (okAt k s[k].toNat && letters (k + 1) (s.data.toList.drop (k + 1))) := by
  rw [drop_at s k h]; rfl
theorem run_step (p : Int → Bool) (s : ByteArray) (k : Nat) (h : k < s.size) : run p (s.data.toList.drop k) = if p s[k].toNat then 1 + run p (s.data.toList.drop (k + 1)) else 0 := by
  rw [drop_at s k h]; rfl
theorem run_end (p : Int → Bool) (s : ByteArray) (k : Nat) (h : ¬ k < s.size) : run p (s.data.toList.drop k) = 0 := by
  rw [drop_end s k h]; rfl
theorem run_le (p : Int → Bool) (l : List UInt8) : run p l ≤ l.length := by
  induction l with
  | nil => exact Nat.le_refl _
  | cons c t ih => simp only [run, List.length_cons]; split <;> omega
theorem run_iff (p : Int → Bool) (l : List UInt8) : run p l = l.length ↔ l.all (fun c => p c.toNat) = true := by
  induction l with
  | nil => simp [run]
  | cons c t ih =>
    have := run_le p t
    by_cases h : p c.toNat = true
    · have e : run p (c :: t) = 1 + run p t := by simp [run, h]
      rw [e, List.all_cons, h, Bool.true_and, ← ih, List.length_cons]; omega
    · have e : run p (c :: t) = 0 := by simp [run, h]
      rw [e, List.all_cons, Bool.eq_false_iff.2 h]; simp
theorem run_all (p : Int → Bool) (l : List UInt8) : decide (run p l = l.length) = l.all (fun c => p c.toNat) := by
  rw [Bool.eq_iff_iff, decide_eq_true_iff]; exact run_iff p l
theorem letters_succ (k : Nat) (l : List UInt8) : letters (k + 1) l = l.all (fun c => part c.toNat) := by
  induction l generalizing k with
  | nil => rfl
  | cons c t ih => simp only [letters, List.all_cons, ih (k + 1)]; simp [okAt, part]
theorem letters_part (c : UInt8) (t : List UInt8) : letters 0 (c :: t) = (low c.toNat && decide (run part (c :: t) = (c :: t).length)) := by
  rw [run_all]; simp only [letters, letters_succ, List.all_cons]
  simp [okAt, part]
  cases low c.toNat <;> simp
/-- how the program asks it -/
theorem name_eq (s : ByteArray) (h : 0 < s.size) : name s = (decide (s.size ≤ 12) && (low s[0].toNat && (decide (run part s.data.toList = s.size) && !has words s.toList))) := by
  unfold name
  have e : s.data.toList = s[0] :: s.data.toList.drop 1 := by have := drop_at s 0 h; simpa using this
  have e1 : letters 0 s.data.toList = (low s[0].toNat && decide (run part s.data.toList = s.size)) := by
    have h2 := letters_part s[0] (s.data.toList.drop 1)
    rw [← e] at h2
    rw [h2]; simp
  rw [e1]
  have h1 : decide (1 ≤ s.size) = true := decide_eq_true h
  rw [h1]
  cases decide (s.size ≤ 12) <;> cases low s[0].toNat <;> cases decide (run part s.data.toList = s.size) <;> simp
theorem name_none (s : ByteArray) (h : ¬ 0 < s.size) : name s = false := by
  unfold name
  have : decide (1 ≤ s.size) = false := by simpa using h
  rw [this]; simp
theorem name_long (s : ByteArray) (h : ¬ s.size ≤ 12) : name s = false := by
  unfold name
  have : decide (s.size ≤ 12) = false := by simpa using h
  rw [this]; simp
theorem has_drop (L : List (List UInt8)) (l : List UInt8) (k : Nat) (h : k < L.length) : has (L.drop k) l = ((l == L[k]) || has (L.drop (k + 1)) l) := by
  rw [List.drop_eq_getElem_cons h]; rfl
theorem has_end (L : List (List UInt8)) (l : List UInt8) (k : Nat) (h : ¬ k < L.length) : has (L.drop k) l = false := by
  rw [List.drop_eq_nil_of_le (by omega)]; rfl
end Go.Proofs.Ytafhpplhlmlfhaa.Qm
/- Plain mathematics of decimals: no program in it. -/
namespace Go.Proofs.Ytafhpplhlmlfhaa.Dm
theorem tm (m : Int) : 10 * m.tdiv 10 + m.tmod 10 = m := Int.mul_tdiv_add_tmod m 10
theorem tmb (m : Int) : -10 < m.tmod 10 ∧ m.tmod 10 < 10 ∧ (0 ≤ m → 0 ≤ m.tmod 10) ∧ (m ≤ 0 → m.tmod 10 ≤ 0) := by
  refine ⟨?_, ?_, fun h => Int.tmod_nonneg _ h, fun h => ?_⟩
  · by_cases h : 0 ≤ m
    · have := Int.tmod_nonneg 10 h; omega
    · have h1 : (-m).tmod 10 < 10 := Int.tmod_lt_of_pos _ (by omega)
      rw [Int.neg_tmod] at h1; omega
  · exact Int.tmod_lt_of_pos _ (by omega)
  · have h1 : 0 ≤ (-m).tmod 10 := Int.tmod_nonneg _ (by omega)
    rw [Int.neg_tmod] at h1; omega
def strip : Nat → Int → Int → Int × Int
  | 0, m, e => (m, e)
  | k + 1, m, e => if m.tmod 10 = 0 then strip k (m.tdiv 10) (e + 1) else (m, e)

theorem tdiv_lt (m : Int) (h : m ≠ 0) : (m.tdiv 10).natAbs < m.natAbs := by
  have := tm m; have := tmb m; omega
/-- one more of fuel than is needed changes nothing -/
theorem strip_succ (k : Nat) : ∀ (m e : Int), m ≠ 0 → m.natAbs < 10 ^ k → strip (k + 1) m e = strip k m e := by
  induction k with
  | zero => intro m e h0 h; simp at h; omega
  | succ k ih =>
    intro m e h0 h
    rw [strip]
    conv => rhs; rw [strip]
    by_cases hz : m.tmod 10 = 0
    · rw [if_pos hz, if_pos hz]
      have := tm m
      rw [hz] at this
      apply ih
      · omega
      · rw [Nat.pow_succ] at h; omega
    · rw [if_neg hz, if_neg hz]
theorem strip_more (k j : Nat) (m e : Int) (h0 : m ≠ 0) (h : m.natAbs < 10 ^ k) : strip (k + j) m e = strip k m e := by
  induction j with
  | zero => rfl
  | succ j ih =>
    rw [← Nat.add_assoc, strip_succ _ _ _ h0 (Nat.lt_of_lt_of_le h (Nat.pow_le_pow_right (by omega) (by omega))), ih]
theorem strip_ne (k : Nat) : ∀ (m e : Int), m ≠ 0 → (strip k m e).1 ≠ 0 := by
  induction k with
  | zero => intro m e h; exact h
  | succ k ih =>
    intro m e h
    rw [strip]
    by_cases hz : m.tmod 10 = 0
    · rw [if_pos hz]; have := tm m; apply ih; omega
    · rw [if_neg hz]; exact h
theorem strip_at (k : Nat) (m e : Int) (h : m.tmod 10 ≠ 0) : strip k m e = (m, e) := by
  cases k with
  | zero => rfl
  | succ k => rw [strip, if_neg h]

/-- in its form -/
def ok (m e : Int) : Bool := if m = 0 then e == 0 else decide (-99999999 ≤ m) && decide (m ≤ 99999999) && decide (-8 ≤ e) && decide (e ≤ 8) && (m.tmod 10 != 0)
theorem ok_iff (m e : Int) : ok m e = true ↔ (m = 0 ∧ e = 0) ∨ (m ≠ 0 ∧ -99999999 ≤ m ∧ m ≤ 99999999 ∧ -8 ≤ e ∧ e ≤ 8 ∧ m.tmod 10 ≠ 0) := by
  unfold ok
  by_cases h : m = 0 <;> simp [h, and_assoc]
/-- the number in its form, if it has room -/
def norm (m e : Int) : Int × Int × Bool :=
  if m = 0 then (0, 0, true) else if ok (strip 20 m e).1 (strip 20 m e).2 then ((strip 20 m e).1, (strip 20 m e).2, true) else (0, 0, false)
/-- what a stripping loop has come to behind j rounds -/
def Strip (m e : Int) (j : Nat) (m' e' : Int) : Prop :=
  m' ≠ 0 ∧ m'.natAbs * 10 ^ j ≤ 1000000000000000000 ∧ e' = e + j ∧ strip (20 - j) m' e' = strip 20 m e
theorem Strip.start (m e : Int) (h0 : m ≠ 0) (h1 : -1000000000000000000 ≤ m) (h2 : m ≤ 1000000000000000000) : Strip m e 0 m e :=
  ⟨h0, by omega, by omega, rfl⟩
theorem pow10_le {a j : Nat} (ha : 1 ≤ a) (h : a * 10 ^ j ≤ 1000000000000000000) : j ≤ 18 := by
  by_cases hj : j ≤ 18
  · exact hj
  · have h1 : 10 ^ 19 ≤ 10 ^ j := Nat.pow_le_pow_right (by omega) (by omega)
    have h2 : 1 * 10 ^ j ≤ a * 10 ^ j := Nat.mul_le_mul_right _ ha
    omega
theorem Strip.bound {m e m' e' : Int} {j : Nat} (h : Strip m e j m' e') : j ≤ 18 ∧ -1000000000000000000 ≤ m' ∧ m' ≤ 1000000000000000000 := by
  obtain ⟨h0, h1, h2, h3⟩ := h
  have hj := pow10_le (a := m'.natAbs) (by omega) h1
  have : m'.natAbs * 1 ≤ m'.natAbs * 10 ^ j := Nat.mul_le_mul_left _ (Nat.one_le_pow j 10 (by omega))
  omega
theorem Strip.step {m e m' e' : Int} {j : Nat} (h : Strip m e j m' e') (hz : m'.tmod 10 = 0) : Strip m e (j + 1) (m'.tdiv 10) (e' + 1) := by
  have hb := h.bound
  obtain ⟨h0, h1, h2, h3⟩ := h
  have ht := tm m'
  rw [hz] at ht
  refine ⟨by omega, ?_, by omega, ?_⟩
  · have : m'.natAbs = 10 * (m'.tdiv 10).natAbs := by omega
    rw [this] at h1
    rw [Nat.pow_succ, Nat.mul_comm (10 ^ j) 10, ← Nat.mul_assoc, Nat.mul_comm _ 10]
    exact h1
  · rw [← h3, show 20 - j = (20 - (j + 1)) + 1 from by omega, strip, if_pos hz]
theorem Strip.stop {m e m' e' : Int} {j : Nat} (h : Strip m e j m' e') (hz : m'.tmod 10 ≠ 0) : strip 20 m e = (m', e') := by
  obtain ⟨h0, h1, h2, h3⟩ := h
  rw [← h3, strip_at _ _ _ hz]
theorem Strip.norm_ok {m e m' e' : Int} {j : Nat} (h : Strip m e j m' e') (hm : m ≠ 0) (hz : m'.tmod 10 ≠ 0) (ho : ok m' e' = true) : norm m e = (m', e', true) := by
  rw [norm, if_neg hm, h.stop hz]; simp [ho]
theorem Strip.norm_no {m e m' e' : Int} {j : Nat} (h : Strip m e j m' e') (hm : m ≠ 0) (hz : m'.tmod 10 ≠ 0) (ho : ok m' e' = false) : norm m e = (0, 0, false) := by
  rw [norm, if_neg hm, h.stop hz]; simp [ho]
/-- DecNew -/
def new (m e : Int) : Int × Int × Bool :=
  if (-100000000000000000 ≤ m ∧ m ≤ 100000000000000000) ∧ (-32 ≤ e ∧ e ≤ 32) then norm m e else (0, 0, false)
/-- DecMul -/
def mul (m x n y : Int) : Int × Int × Bool := if ok m x = true ∧ ok n y = true then norm (m * n) (x + y) else (0, 0, false)
theorem ok_bd {m e : Int} (h : ok m e = true) : -99999999 ≤ m ∧ m ≤ 99999999 ∧ -8 ≤ e ∧ e ≤ 8 := by
  rw [ok_iff] at h; omega
theorem mul_bd {m n : Int} (a : Int) (b : Int) (ha : 0 ≤ a) (h1 : -a ≤ m) (h2 : m ≤ a) (h3 : -b ≤ n) (h4 : n ≤ b) : -(a * b) ≤ m * n ∧ m * n ≤ a * b := by
  have e1 : m.natAbs * n.natAbs ≤ a.toNat * b.toNat := Nat.mul_le_mul (by omega) (by omega)
  have e2 : (m * n).natAbs = m.natAbs * n.natAbs := Int.natAbs_mul m n
  have e3 : ((a.toNat * b.toNat : Nat) : Int) = a * b := by
    rw [Int.natCast_mul, Int.toNat_of_nonneg ha, Int.toNat_of_nonneg (by omega)]
  omega
/-- a whole number times a power of ten -/
def p10 (k : Int) : Int := (10 : Int) ^ k.toNat
theorem p10_zero : p10 0 = 1 := rfl
theorem p10_nonpos (k : Int) (h : k ≤ 0) : p10 k = 1 := by unfold p10; rw [show k.toNat = 0 from by omega]; rfl
theorem p10_succ (k : Int) (h : 0 ≤ k) : p10 (k + 1) = p10 k * 10 := by
  unfold p10; rw [show (k + 1).toNat = k.toNat + 1 from by omega, Int.pow_succ]
theorem p10_pos (k : Int) : 1 ≤ p10 k := by
  have : (0 : Int) < 10 ^ k.toNat := Int.pow_pos (by omega)
  unfold p10; omega
theorem p10_mono {j k : Int} (h : j ≤ k) : p10 j ≤ p10 k := by
  unfold p10
  have : (10 : Nat) ^ j.toNat ≤ 10 ^ k.toNat := Nat.pow_le_pow_right (by omega) (by omega)
  exact_mod_cast this
theorem p10_lt (j : Int) (h : j ≤ 18) : p10 j ≤ 1000000000000000000 := p10_mono (k := 18) h
/-- manAt -/
def manAt (m x p : Int) : Int × Bool := if m = 0 then (0, true) else if 8 < x - p then (0, false) else (m * p10 (x - p), true)
/-- l1Up behind so many rounds: nothing, if it went too far on the way -/
def up : Nat → Int → Int × Bool
  | 0, n => (n, true)
  | k + 1, n => if 1000000000 < n * 10 ∨ n * 10 < -1000000000 then (0, false) else up k (n * 10)
/-- DecAdd of two in their form -/
def add1 (m x n y : Int) : Int × Int × Bool :=
  if (manAt m x (min x y)).2 = true ∧ (manAt n y (min x y)).2 = true then new ((manAt m x (min x y)).1 + (manAt n y (min x y)).1) (min x y) else (0, 0, false)
def add (m x n y : Int) : Int × Int × Bool := if ok m x = true ∧ ok n y = true then add1 m x n y else (0, 0, false)
/-- l1Add -/
def addS (m x n y : Int) : Int × Int × Bool :=
  if m = 0 then (n, y, true) else if n = 0 then (m, x, true) else
    if (up (x - min x y).toNat m).2 = true ∧ (up (y - min x y).toNat n).2 = true then norm ((up (x - min x y).toNat m).1 + (up (y - min x y).toNat n).1) (min x y) else (0, 0, false)
theorem up_eq (k : Nat) : ∀ n : Int, n ≠ 0 → -1000000000 ≤ n → n ≤ 1000000000 → up k n = if -1000000000 ≤ n * 10 ^ k ∧ n * 10 ^ k ≤ 1000000000 then (n * 10 ^ k, true) else (0, false) := by
  induction k with
  | zero => intro n h0 h1 h2; rw [up, if_pos]; simp; simp; omega
  | succ k ih =>
    intro n h0 h1 h2
    have hp : (1 : Int) ≤ 10 ^ k := by have : (0 : Int) < 10 ^ k := Int.pow_pos (by omega); omega
    rw [up, Int.pow_succ, Int.mul_comm (10 ^ k) 10, ← Int.mul_assoc]
    by_cases hc : 1000000000 < n * 10 ∨ n * 10 < -1000000000
    · rw [if_pos hc, if_neg]
      rcases hc with hc | hc
      · have : n * 10 * 1 ≤ n * 10 * 10 ^ k := Int.mul_le_mul_of_nonneg_left hp (by omega)
        omega
      · have : (-(n * 10)) * 1 ≤ (-(n * 10)) * 10 ^ k := Int.mul_le_mul_of_nonneg_left hp (by omega)
        have e : (-(n * 10)) * (10 : Int) ^ k = -(n * 10 * 10 ^ k) := Int.neg_mul _ _
        omega
    · rw [if_neg hc]
      exact ih (n * 10) (by omega) (by omega) (by omega)
theorem strip_mul (j k : Nat) : ∀ (m e : Int), m.tmod 10 ≠ 0 → strip (k + 1 + j) (m * 10 ^ k) e = (m, e + k) := by
  induction k with
  | zero => intro m e h; rw [strip_at _ _ _ (by simpa using h)]; simp
  | succ k ih =>
    intro m e h
    rw [show k + 1 + 1 + j = (k + 1 + j) + 1 from by omega, strip, Int.pow_succ, ← Int.mul_assoc]
    rw [if_pos (Int.mul_tmod_left _ _), Int.mul_tdiv_cancel _ (by omega), ih m (e + 1) h]
    simp; omega
theorem norm_big {m e : Int} (h0 : m.tmod 10 ≠ 0) (h : 99999999 < m ∨ m < -99999999) : norm m e = (0, 0, false) := by
  have hm : m ≠ 0 := by intro h; subst h; simp at h0
  rw [norm, if_neg hm, strip_at _ _ _ h0]
  have : ok m e = false := by
    rw [Bool.eq_false_iff, Ne, ok_iff]; omega
  simp [this]
theorem new_norm {m e : Int} (h1 : -100000000000000000 ≤ m) (h2 : m ≤ 100000000000000000) (h3 : -32 ≤ e) (h4 : e ≤ 32) : new m e = norm m e := by
  rw [new, if_pos ⟨⟨h1, h2⟩, h3, h4⟩]
theorem norm_self {m e : Int} (h : ok m e = true) : norm m e = (m, e, true) := by
  by_cases h0 : m = 0
  · subst h0; rw [ok_iff] at h; rw [norm, if_pos rfl]; simp at h; simp [h]
  · have h' := h
    rw [ok_iff] at h'
    rw [norm, if_neg h0, strip_at _ _ _ (by omega)]
    simp [h]
theorem norm_pow {m e : Int} (k : Nat) (hk : k ≤ 19) (h0 : m ≠ 0) (h : ok m (e + k) = true) : norm (m * 10 ^ k) e = (m, e + k, true) := by
  have h' := h
  rw [ok_iff] at h'
  have hp : (10 : Int) ^ k ≠ 0 := Int.pow_ne_zero (by omega)
  rw [norm, if_neg (Int.mul_ne_zero h0 hp)]
  have hs : strip 20 (m * 10 ^ k) e = (m, e + k) := by
    have e1 := strip_mul (19 - k) k m e (by omega)
    rw [show k + 1 + (19 - k) = 20 from by omega] at e1
    exact e1
  rw [hs]; simp [h]
theorem tmod_add {u v : Int} (h : u.tmod 10 = 0) (hv : v.tmod 10 ≠ 0) : (u + v).tmod 10 ≠ 0 := by
  have := tm u; have := tm v; have := tm (u + v); have := tmb v
  intro hh; omega
theorem ite_and_comm {p q : Prop} [Decidable p] [Decidable q] (a b : Int × Int × Bool) : (if p ∧ q then a else b) = if q ∧ p then a else b := by
  by_cases hp : p <;> by_cases hq : q <;> simp [hp, hq]
theorem p10_tmod (k : Int) (h : 1 ≤ k) (m : Int) : (m * p10 k).tmod 10 = 0 := by
  have e := p10_succ (k - 1) (by omega)
  rw [show k - 1 + 1 = k from by omega] at e
  rw [e, ← Int.mul_assoc]; exact Int.mul_tmod_left _ _
theorem ok_ne {m x : Int} (h : ok m x = true) (h0 : m ≠ 0) : m.tmod 10 ≠ 0 := by rw [ok_iff] at h; omega
theorem add_zero_left {n y : Int} (hn : ok n y = true) : add1 0 0 n y = (n, y, true) := by
  have bn := ok_bd hn
  unfold add1 manAt
  by_cases hn0 : n = 0
  · have hy : y = 0 := by rw [ok_iff] at hn; omega
    subst hn0 hy; decide
  · by_cases hy : 0 ≤ y
    · rw [show min 0 y = 0 from by omega]
      simp only [if_true, if_neg hn0, Int.sub_zero, if_neg (show ¬ 8 < y from by omega), and_self, Int.zero_add]
      have hp : p10 y = 10 ^ y.toNat := rfl
      have hb := mul_bd (m := n) (n := p10 y) 99999999 100000000 (by omega) (by omega) (by omega) (by have := p10_pos y; omega) (p10_mono (k := 8) (by omega))
      rw [new_norm (by omega) (by omega) (by omega) (by omega), hp, norm_pow y.toNat (by omega) hn0 (by rw [show 0 + (y.toNat : Int) = y from by omega]; exact hn)]
      simp; omega
    · rw [show min 0 y = y from by omega]
      simp only [if_true, if_neg hn0, Int.sub_self, if_neg (show ¬ (8 : Int) < 0 from by omega), and_self, Int.zero_add, p10_zero, Int.mul_one]
      rw [new_norm (by omega) (by omega) (by omega) (by omega), norm_self hn]
theorem add_comm1 (m x n y : Int) : add1 m x n y = add1 n y m x := by
  unfold add1
  rw [Int.min_comm y x, Int.add_comm (manAt n y (min x y)).1, ite_and_comm]
theorem manAt_bd {m x : Int} (p : Int) (h : ok m x = true) : -9999999900000000 ≤ (manAt m x p).1 ∧ (manAt m x p).1 ≤ 9999999900000000 := by
  have b := ok_bd h
  unfold manAt
  by_cases h0 : m = 0
  · rw [if_pos h0]; exact ⟨by decide, by decide⟩
  · rw [if_neg h0]
    by_cases h8 : 8 < x - p
    · rw [if_pos h8]; exact ⟨by decide, by decide⟩
    · rw [if_neg h8]
      have hb := mul_bd (m := m) (n := p10 (x - p)) 99999999 100000000 (by omega) (by omega) (by omega) (by have := p10_pos (x - p); omega) (p10_mono (k := 8) (by omega))
      simp only; omega
/-- both far apart: the spec's way and the impl's -/
theorem add_gt {m x n y : Int} (hm : ok m x = true) (hn : ok n y = true) (hm0 : m ≠ 0) (hn0 : n ≠ 0) (hxy : y < x) : addS m x n y = add1 m x n y := by
  have bm := ok_bd hm
  have bn := ok_bd hn
  have tn := ok_ne hn hn0
  unfold addS add1 manAt
  rw [show min x y = y from by omega]
  simp only [if_neg hm0, if_neg hn0, Int.sub_self, if_neg (show ¬ (8 : Int) < 0 from by omega), p10_zero, Int.mul_one]
  rw [show (0 : Int).toNat = 0 from rfl, up, up_eq _ m hm0 (by omega) (by omega)]
  have hp : (10 : Int) ^ (x - y).toNat = p10 (x - y) := rfl
  rw [hp]
  have ht := p10_tmod (x - y) (by omega) m
  have htt := tmod_add ht tn
  by_cases h8 : 8 < x - y
  · have h9 : p10 9 ≤ p10 (x - y) := p10_mono (by omega)
    rw [show p10 9 = 1000000000 from rfl] at h9
    rw [if_pos h8]
    simp only [Bool.false_eq_true, false_and, if_false]
    by_cases hc : -1000000000 ≤ m * p10 (x - y) ∧ m * p10 (x - y) ≤ 1000000000
    · rw [if_pos hc]
      simp only [and_self, if_true]
      apply norm_big htt
      rcases Int.lt_or_gt_of_ne hm0 with h | h
      · have : 1 * p10 (x - y) ≤ (-m) * p10 (x - y) := Int.mul_le_mul_of_nonneg_right (by omega) (by omega)
        have e : (-m) * p10 (x - y) = -(m * p10 (x - y)) := Int.neg_mul _ _
        omega
      · have : 1 * p10 (x - y) ≤ m * p10 (x - y) := Int.mul_le_mul_of_nonneg_right (by omega) (by omega)
        omega
    · rw [if_neg hc]; simp
  · rw [if_neg h8]
    have hb := mul_bd (m := m) (n := p10 (x - y)) 99999999 100000000 (by omega) (by omega) (by omega) (by have := p10_pos (x - y); omega) (p10_mono (k := 8) (by omega))
    simp only [and_self, if_true]
    rw [new_norm (by omega) (by omega) (by omega) (by omega)]
    by_cases hc : -1000000000 ≤ m * p10 (x - y) ∧ m * p10 (x - y) ≤ 1000000000
    · rw [if_pos hc]; simp
    · rw [if_neg hc]
      simp only [Bool.false_eq_true, false_and, if_false]
      exact (norm_big htt (by omega)).symm
theorem addS_comm {m x n y : Int} (hm : m ≠ 0) (hn : n ≠ 0) : addS m x n y = addS n y m x := by
  unfold addS
  rw [if_neg hm, if_neg hn, if_neg hn, if_neg hm, Int.min_comm y x, Int.add_comm (up (y - min x y).toNat n).1, ite_and_comm]
theorem addS_eq {m x n y : Int} (hm : ok m x = true) (hn : ok n y = true) : addS m x n y = add1 m x n y := by
  by_cases hm0 : m = 0
  · have hx : x = 0 := by rw [ok_iff] at hm; omega
    subst hm0 hx
    rw [add_zero_left hn]; simp [addS]
  · by_cases hn0 : n = 0
    · have hy : y = 0 := by rw [ok_iff] at hn; omega
      subst hn0 hy
      rw [add_comm1, add_zero_left hm]; simp [addS, hm0]
    · rcases Int.lt_trichotomy x y with h | h | h
      · rw [addS_comm hm0 hn0, add_comm1]; exact add_gt hn hm hn0 hm0 h
      · subst h
        have bm := ok_bd hm
        have bn := ok_bd hn
        unfold addS add1 manAt
        rw [show min x x = x from by omega]
        simp only [if_neg hm0, if_neg hn0, Int.sub_self, if_neg (show ¬ (8 : Int) < 0 from by omega), p10_zero, Int.mul_one]
        rw [show (0 : Int).toNat = 0 from rfl, up, up]
        simp only [and_self, if_true]
        rw [new_norm (by omega) (by omega) (by omega) (by omega)]
      · exact add_gt hm hn hm0 hn0 h
theorem ok_neg (n y : Int) : ok (-n) y = ok n y := by
  rw [Bool.eq_iff_iff, ok_iff, ok_iff, Int.neg_tmod]; omega
/-- DecSub -/
def sub (m x n y : Int) : Int × Int × Bool := if ok m x = true ∧ ok n y = true then add1 m x (-n) y else (0, 0, false)
theorem sub_add (m x n y : Int) : add m x (-n) y = sub m x n y := by
  rw [add, sub]; simp only [ok_neg]
theorem sub_min (m x y : Int) : sub m x (-9223372036854775808) y = (0, 0, false) := by
  rw [sub, if_neg]; rw [ok_iff (-9223372036854775808) y]; omega
theorem add_min (m x y : Int) : add m x (-9223372036854775808) y = (0, 0, false) := by
  rw [add, if_neg]; rw [ok_iff (-9223372036854775808) y]; omega
end Go.Proofs.Ytafhpplhlmlfhaa.Dm
/- Which trees are ok: plain mathematics over lists of trees. -/
namespace Go.Proofs.Ytafhpplhlmlfhaa
/-- what stands at a place of a list -/
def Fo.kindAt : Fo → Nat → Int
  | .nil, _ => 0
  | .cons k _ _ _ _ _ _ _, 0 => k
  | .cons _ _ _ _ _ _ _ next, i + 1 => next.kindAt i
def Fo.textAt : Fo → Nat → ByteArray
  | .nil, _ => ⟨#[]⟩
  | .cons _ t _ _ _ _ _ _, 0 => t
  | .cons _ _ _ _ _ _ _ next, i + 1 => next.textAt i
def Fo.manAt : Fo → Nat → Int
  | .nil, _ => 0
  | .cons _ _ m _ _ _ _ _, 0 => m
  | .cons _ _ _ _ _ _ _ next, i + 1 => next.manAt i
def Fo.expAt : Fo → Nat → Int
  | .nil, _ => 0
  | .cons _ _ _ e _ _ _ _, 0 => e
  | .cons _ _ _ _ _ _ _ next, i + 1 => next.expAt i
def Fo.addrAt : Fo → Nat → Option Addr
  | .nil, _ => none
  | .cons _ _ _ _ a _ _ _, 0 => a
  | .cons _ _ _ _ _ _ _ next, i + 1 => next.addrAt i
def Fo.capAt : Fo → Nat → Nat
  | .nil, _ => 0
  | .cons _ _ _ _ _ c _ _, 0 => c
  | .cons _ _ _ _ _ _ _ next, i + 1 => next.capAt i
def Fo.kidsAt : Fo → Nat → Fo
  | .nil, _ => .nil
  | .cons _ _ _ _ _ _ kids _, 0 => kids
  | .cons _ _ _ _ _ _ _ next, i + 1 => next.kidsAt i
theorem Fo.from_at : ∀ {F : Fo} {w : World} {b o i : Nat}, F.From w b o → i < F.len →
    (w.cell? ⟨b, o + i * 5, none⟩ = some (.int .i64 (F.kindAt i)) ∧ w.cell? ⟨b, o + i * 5 + 1, none⟩ = some (.string (F.textAt i)) ∧ w.cell? ⟨b, o + i * 5 + 2, none⟩ = some (.int .i64 (F.manAt i)) ∧ w.cell? ⟨b, o + i * 5 + 3, none⟩ = some (.int .i64 (F.expAt i)) ∧
      w.cell? ⟨b, o + i * 5 + 4, none⟩ = some (.slice (F.addrAt i) (F.kidsAt i).len (F.capAt i))) ∧ (F.kidsAt i).In w (F.addrAt i) ∧ (F.kidsAt i).len ≤ F.capAt i ∧ F.capAt i ≤ maxLen ∧ (F.textAt i).size ≤ maxLen := by
  intro F
  induction F with
  | nil => intro w b o i _ h; exact absurd h (Nat.not_lt_zero _)
  | cons k t m e a c kids next _ ih =>
    rintro w b o i ⟨hc, hk, h1, h2, h3, hn⟩ hi
    cases i with
    | zero => simp only [Nat.zero_mul, Nat.add_zero]; exact ⟨hc, hk, h1, h2, h3⟩
    | succ i =>
      have := ih hn (show i < next.len from Nat.lt_of_succ_lt_succ hi)
      rw [show o + 5 + i * 5 = o + (i + 1) * 5 by omega] at this
      exact this
theorem Fo.size_at : ∀ {F : Fo} {i : Nat}, i < F.len → (F.kidsAt i).size < F.size := by
  intro F
  induction F with
  | nil => intro i h; exact absurd h (Nat.not_lt_zero _)
  | cons k t m e a c kids next _ ih =>
    intro i hi
    cases i with
    | zero => show kids.size < kids.size + 1 + next.size; omega
    | succ i => have := ih (show i < next.len from Nat.lt_of_succ_lt_succ hi); show (next.kidsAt i).size < kids.size + 1 + next.size; omega
/-- of the first n how many are of a kind -/
def Fo.cnt (F : Fo) (q : Int) : Nat → Nat
  | 0 => 0
  | n + 1 => F.cnt q n + (if F.kindAt n = q then 1 else 0)
theorem Fo.cnt_le (F : Fo) (q : Int) (n : Nat) : F.cnt q n ≤ n := by
  induction n with
  | zero => exact Nat.le_refl _
  | succ n ih => show F.cnt q n + (if F.kindAt n = q then 1 else 0) ≤ n + 1; split <;> omega
/-- the text at a place is none of those ahead of it -/
def Fo.newAt (F : Fo) (i : Nat) : Nat → Bool
  | 0 => true
  | j + 1 => F.newAt i j && !((F.textAt i).toList == (F.textAt j).toList)
/-- of the first n no two have one text -/
def Fo.dist (F : Fo) : Nat → Bool
  | 0 => true
  | n + 1 => F.dist n && F.newAt n n
theorem Fo.newAt_false {F : Fo} {i j n : Nat} (h : ((F.textAt i).toList == (F.textAt j).toList) = true) (hj : j < n) : F.newAt i n = false := by
  induction n with
  | zero => omega
  | succ n ih =>
    show (F.newAt i n && !((F.textAt i).toList == (F.textAt n).toList)) = false
    rcases Nat.lt_succ_iff_lt_or_eq.1 hj with hj | rfl
    · rw [ih hj]; rfl
    · rw [h]; simp
theorem Fo.dist_false {F : Fo} {i n : Nat} (h : F.newAt i i = false) (hi : i < n) : F.dist n = false := by
  induction n with
  | zero => omega
  | succ n ih =>
    show (F.dist n && F.newAt n n) = false
    rcases Nat.lt_succ_iff_lt_or_eq.1 hi with hi | rfl
    · rw [ih hi]; rfl
    · rw [h]; simp
namespace Om
def std1 : List (List UInt8) := [[108, 101, 110, 103, 116, 104], [107, 101, 121, 115], [116, 101, 120, 116], [116, 121, 112, 101], [115, 111, 114, 116], [114, 97, 110, 103, 101]]
def std2 : List (List UInt8) := [[109, 97, 112], [102, 105, 108, 116, 101, 114], [106, 111, 105, 110], [104, 97, 115]]
def std3 : List (List UInt8) := [[102, 111, 108, 100]]
/-- how many a function that is there from the beginning is given -/
def std (l : List UInt8) : Nat := if Qm.has std1 l then 1 else if Qm.has std2 l then 2 else if Qm.has std3 l then 3 else 0
theorem std_le (l : List UInt8) : std l ≤ 3 := by unfold std; split <;> (try split) <;> (try split) <;> omega
/-- signs between two -/
def signs : List (List UInt8) := [[124, 124], [38, 38], [61, 61], [33, 61], [60], [60, 61], [62], [62, 61], [43], [45], [42], [47], [37]]
/-- how many a kind has below, at least and at most -/
def low (k : Int) : Nat := if k = 10 ∨ k = 11 ∨ k = 12 ∨ k = 18 then 1 else if k = 13 ∨ k = 15 ∨ k = 19 ∨ k = 21 then 2 else if k = 14 then 3 else if k = 16 ∨ k = 17 then 1 else 0
def high (k : Int) : Nat := if k = 10 ∨ k = 11 ∨ k = 12 ∨ k = 18 then 1 else if k = 13 ∨ k = 15 ∨ k = 19 ∨ k = 21 then 2 else if k = 14 then 3 else if k = 16 ∨ k = 17 ∨ k = 20 ∨ k = 22 ∨ k = 24 then 8 else 0
/-- the program's table has them so for a field and for a function that is there from the beginning -/
def low' (k : Int) : Nat := if k = 23 ∨ k = 24 then 1 else low k
def high' (k : Int) : Nat := if k = 23 then 1 else if k = 24 then 3 else high k
/-- the sort of text: 0 none, 1 short, 2 a name, 3 a sign, 4 a function -/
def sort (k : Int) : Nat := if k = 5 then 1 else if k = 6 ∨ k = 8 ∨ k = 18 ∨ k = 15 ∨ k = 21 ∨ k = 9 ∨ k = 23 then 2 else if k = 13 then 3 else if k = 24 then 4 else 0
def textOf (q : Nat) (t : ByteArray) : Bool := if q = 1 then decide (t.size ≤ 1500) else if q = 2 then Qm.name t else if q = 3 then Qm.has signs t.toList else if q = 4 then decide (0 < std t.toList) else (t.toList == [])
/-- the number is as the kind asks -/
def num (k m e : Int) : Bool := if k = 4 then Dm.ok m e && decide (0 ≤ m) else if k = 23 then decide (e = 0) && (decide (0 ≤ m) && decide (m ≤ 2)) else decide (m = 0) && decide (e = 0)
/-- what is right below is as the kind asks -/
def below (k : Int) (t : ByteArray) (F : Fo) : Bool :=
  if k = 22 then decide (F.cnt 23 F.len = F.len) && F.dist F.len
  else if k = 16 then decide (F.cnt 6 (F.len - 1) = F.len - 1) && (F.dist (F.len - 1) && decide (F.cnt 23 F.len = 0))
  else if k = 24 then decide (std t.toList = F.len) && decide (F.cnt 23 F.len = 0)
  else decide (F.cnt 23 F.len = 0)
/-- a node with those right below is as its kind asks -/
def fit (k : Int) (t : ByteArray) (m e : Int) (F : Fo) : Bool :=
  (decide (1 ≤ k) && decide (k ≤ 24)) && ((decide (low' k ≤ F.len) && decide (F.len ≤ high' k)) && textOf (sort k) t) && (num k m e && below k t F)
end Om
end Go.Proofs.Ytafhpplhlmlfhaa
/- The iterator over a tree and all below it. -/
namespace Go.Proofs.Ytafhpplhlmlfhaa
open Go.RowKit Go.Shelf
attribute [local go_sem] Oper.semAt_some

/-- the trees of a list and all below, each ahead of those below it, with how deep it stands -/
def Fo.flat : Fo → Nat → List (Nat × Int × ByteArray × Int × Int × Fo)
  | .nil, _ => []
  | .cons k t m e _ _ kids next, d => (d, k, t, m, e, kids) :: (kids.flat (d + 1) ++ next.flat d)
theorem Fo.flat_len : ∀ (F : Fo) (d : Nat), (F.flat d).length = F.size := by
  intro F
  induction F with
  | nil => intro d; rfl
  | cons k t m e a c kids next ih1 ih2 => intro d; show ((d, k, t, m, e, kids) :: (kids.flat (d + 1) ++ next.flat d)).length = kids.size + 1 + next.size; simp [ih1, ih2]; omega
/-- whatever lies in the one world lies in the other -/
def Sub (w W : World) : Prop := ∀ b o v, w.cell? ⟨b, o, none⟩ = some v → W.cell? ⟨b, o, none⟩ = some v
theorem Fo.from_sub {w w' : World} (h : Sub w w') : ∀ (F : Fo) (b o : Nat), F.From w b o → F.From w' b o := by
  intro F
  induction F with
  | nil => intro b o _; trivial
  | cons k t m e a c kids next ih1 ih2 =>
    rintro b o ⟨⟨h1, h2, h3, h4, h5⟩, hk, hc, hm, ht, hn⟩
    refine ⟨⟨h _ _ _ h1, h _ _ _ h2, h _ _ _ h3, h _ _ _ h4, h _ _ _ h5⟩, ?_, hc, hm, ht, ih2 _ _ hn⟩
    rcases hk with hk | ⟨b', o', e1, e2⟩
    · exact .inl hk
    · exact .inr ⟨b', o', e1, ih1 _ _ e2⟩
theorem Fo.In.sub {w w' : World} {F : Fo} {a : Option Addr} (hF : F.In w a) (h : Sub w w') : F.In w' a := by
  rcases hF with rfl | ⟨b, o, rfl, hF⟩
  · exact .inl rfl
  · exact .inr ⟨b, o, rfl, Fo.from_sub h F b o hF⟩
/-- what a round keeps: the cells that lay ahead of the caller, and those that were made since the loop began -/
def Kept (n0 n1 : Nat) (W W' : World) : Prop := W.heap.size ≤ W'.heap.size ∧ ∀ j o, W.heap[j]? = some o → o.isCells = true → (j < n0 ∨ n1 ≤ j) → W'.heap[j]? = some o
theorem Kept.refl (n0 n1 : Nat) (W : World) : Kept n0 n1 W W := ⟨Nat.le_refl _, fun _ _ h _ _ => h⟩
theorem Kept.trans {n0 n1 : Nat} {A B C : World} (h : Kept n0 n1 A B) (k : Kept n0 n1 B C) : Kept n0 n1 A C := ⟨Nat.le_trans h.1 k.1, fun j o ho hc hj => k.2 j o (h.2 j o ho hc hj) hc hj⟩
theorem Kept.of_below {n0 n1 : Nat} {W W' : World} (h : Below W.heap.size W W') : Kept n0 n1 W W' := ⟨h.size, fun j _ ho _ _ => (h.block j (Array.getElem?_eq_some_iff.1 ho).1).trans ho⟩
theorem cells_of_cell {W : World} {b o : Nat} {v : Value} (h : W.cell? ⟨b, o, none⟩ = some v) : ∃ x, W.heap[b]? = some x ∧ x.isCells = true := by
  have hlt := World.block_lt_of_cell? W _ h
  refine ⟨W.heap[b]'hlt, Array.getElem?_eq_getElem hlt, ?_⟩
  have hb : W.heap[b]? = some (W.heap[b]'hlt) := Array.getElem?_eq_getElem hlt
  unfold World.cell? at h
  rw [hb] at h
  cases hx : W.heap[b]'hlt <;> simp_all [Obj.isCells]
theorem Kept.cell {n0 n1 : Nat} {W W' : World} (h : Kept n0 n1 W W') {b o : Nat} {v : Value} (hv : W.cell? ⟨b, o, none⟩ = some v) (hb : b < n0 ∨ n1 ≤ b) : W'.cell? ⟨b, o, none⟩ = some v := by
  obtain ⟨x, hx, hc⟩ := cells_of_cell hv
  exact (World.cell?_of_block ((h.2 b x hx hc hb).trans hx.symm)).trans hv
theorem Kept.sub {n0 n1 : Nat} {w W W' : World} (h : Kept n0 n1 W W') (hs : Sub w W) (hn : w.heap.size ≤ n0) : Sub w W' := fun b o v hv =>
  h.cell (hs b o v hv) (.inl (Nat.lt_of_lt_of_le (World.block_lt_of_cell? w _ hv) hn))
theorem Sub.of_below {w W : World} (h : Below w.heap.size w W) : Sub w W := fun b o _ hv => (h.cell (p := ⟨b, o, none⟩) (World.block_lt_of_cell? w _ hv)).trans hv
/-- a tree that is told, with how deep it stands; what is below it lies in the world w -/
structure TI (w : World) where
  d : Nat
  k : Int
  t : ByteArray
  m : Int
  e : Int
  a : Option Addr
  kids : Fo
  c : Nat
  hin : kids.In w a
  hl : kids.len ≤ c
  hc : c ≤ maxLen
  ht : t.size ≤ maxLen
def TI.raw {w : World} (x : TI w) : Nat × Int × ByteArray × Int × Int × Fo := (x.d, x.k, x.t, x.m, x.e, x.kids)
def TI.enc {w : World} (x : TI w) : Array Value := #[.int .i64 x.d, .agg #[.int .i64 x.k, .string x.t, .int .i64 x.m, .int .i64 x.e, .slice x.a x.kids.len x.c]]

theorem room_none {F : Fence} (hd : F.depth = none) (k : Nat) : F.room k := fun d h => by rw [hd] at h; cases h
theorem roundIn_any {F : Fence} (hd : F.depth = none) {m m' : Nat} {P : Program} {l : Nat} {f : FuncId} {tmps : Array Value} {assign body : Code} {w : World} {R : Ending → World → Prop}
    (h : RoundIn F m P l f tmps assign body w R) : RoundIn F m' P l f tmps assign body w R := ⟨h.1, fun c cs _ => h.2 c cs (room_none hd _)⟩
theorem yieldAt_any {F : Fence} (hd : F.depth = none) {m : Nat} (m' : Nat) {P : Program} {l : Nat} {args : Array Value} {W : World} {R : Ending → World → Prop} (h : YieldAt F m P l args W R) : YieldAt F m' P l args W R := by
  obtain ⟨fn, tmps, assign, body, hy, hR⟩ := h
  exact ⟨fn, tmps, assign, body, hy, roundIn_any hd hR⟩
theorem grown_below {W W' : World} (h : Below W.heap.size W W') : W.grownBy W' none := ⟨h.os, h.tape, h.output, h.size, fun k hk _ => h.block k hk⟩

end Go.Proofs.Ytafhpplhlmlfhaa
/- Ranges over functions whose iterator writes cells of its own; regions that draw, in a round. -/
namespace Go.Proofs.Ytafhpplhlmlfhaa
open Go.RowKit Go.Shelf
section
variable {P : Program} {ops : Array Oper} {Q : Exit → Act → World → Prop} {n l : Nat}
theorem round_op {o : Oper} {a : Act} {w : World} {K : Act → World → Prop} (hd : ∀ c, o.op ≠ .defer c) (h : o.wp P a w K Q) : o.wpIn (Fence.wide.inRound l) n P a w K Q := by
  unfold Oper.wp at h
  unfold Oper.wpIn
  refine ⟨fun _ _ => trivial, ?_⟩
  rw [Oper.semAt_plain _ _ _ hd]
  generalize (execOp a.eval o).run P w = r at *
  cases r with
  | ok x w' =>
    cases x with
    | value v => exact h
    | skip => exact h
    | defer d => exact h
    | enter f args => exact ⟨fun e => (by cases e), CallsIn.inRound l (callsIn_wide.2 h)⟩
    | row row args => exact ⟨fun e => (by cases e), fun c cs _ => let ⟨v, w', r, s⟩ := h c cs; ⟨v, w', r, stepsIn_wide.2 s⟩⟩
    | _ => exact h.elim
  | halt x w' =>
    cases x with
    | panic v => exact h
    | _ => exact h.elim
theorem round_any {md : Region.Mode} (hd : ∀ (i : Nat) (o : Oper), ops[i]? = some o → ∀ c, o.op ≠ .defer c) (hlo : ¬ LetsOut Q) : ∀ (fuel : Nat) (listed : Array Bool) (a : Act) (w : World), wpAny P md ops Q fuel listed a w → wpAnyIn (Fence.wide.inRound l) n P md ops Q fuel listed a w
  | 0, _, _, _, h => h
  | fuel + 1, listed, a, w, h => by
    refine ⟨h.1, fun i hi => ?_⟩
    have hk := wpOp_mono (fun a' w' h' => round_any hd hlo fuel (listed.setIfInBounds i true) a' w' h') (h.2 i hi)
    unfold wpOp at hk
    unfold wpOpIn
    cases ho : ops[i]? with
    | none => rw [ho] at hk; exact hk
    | some o =>
      rw [ho] at hk
      dsimp only at hk ⊢
      split
      · rename_i hw
        rw [if_pos hw] at hk
        rcases hk with hk | hk
        · exact round_op (hd i o ho) hk
        · exact absurd hk.2 hlo
      · rename_i hw
        rw [if_neg hw] at hk
        exact ⟨fun _ _ => trivial, hk⟩
/-- a region that draws, in a round -/
theorem wpIn_region_round {S : World → Prop} {id : Nat} {a : Act} {w : World} (hd : ∀ (i : Nat) (o : Oper), ops[i]? = some o → ∀ c, o.op ≠ .defer c) (hlo : ¬ LetsOut Q) (hm : P.follows .mixedOrders = true) (hS : S w.drew)
    (h : S w.drew → wpAnyH P .any ops Q S ops.size (Array.replicate ops.size false) a w.drew) : (Code.region id ops true).wpIn (Fence.wide.inRound l) n P Q a w :=
  wpIn_region_any hm (round_any hd hlo _ _ _ _ (wpAny_of_held _ _ _ _ (h hS)))
end
/-- what it says stays so, whatever is laid or turned from block B on -/
def Low {β : Type} (B : Nat) (I : β → World → Prop) : Prop := ∀ s A A', I s A → Below B A A' → I s A'
/-- what a round keeps: the blocks below n0, and those from B on -/
def Keeps2 (n0 B : Nat) (W W' : World) : Prop := W.heap.size ≤ W'.heap.size ∧ ∀ j, (j < n0 ∨ B ≤ j) → j < W.heap.size → W'.heap[j]? = W.heap[j]?
theorem Keeps2.refl (n0 B : Nat) (W : World) : Keeps2 n0 B W W := ⟨Nat.le_refl _, fun _ _ _ => rfl⟩
theorem Keeps2.trans {n0 B : Nat} {A C D : World} (h : Keeps2 n0 B A C) (k : Keeps2 n0 B C D) : Keeps2 n0 B A D := ⟨Nat.le_trans h.1 k.1, fun j hj hl => (k.2 j hj (Nat.lt_of_lt_of_le hl h.1)).trans (h.2 j hj hl)⟩
theorem below_putObj {B : Nat} {A W : World} (h : Below B A W) {l : Nat} (hl : B ≤ l) (hB : B ≤ W.heap.size) (o : Obj) : Below B A (W.putObj l o) := h.grown (grownBy_putObj' W l o) hB (fun k e => by cases e; exact hl)
/-- an iterator that tells S, for whatever loop whose invariant speaks of what lay ahead of it -/
def SeqLow {α : Type} (n : Nat) (P : Program) (gf : Nat) (lb : Array Value) (encs : α → Array Value) (n0 : Nat) (R : List α → α → Prop) (S : List α → Prop) (w : World) : Prop :=
  ∀ (l : Nat) (J : List α → World → Prop) (W : World), Below w.heap.size w W → Low W.heap.size J →
    (∀ pre x W1, J pre W1 → R pre x → W.heap.size ≤ W1.heap.size → YieldAt Fence.wide (n - 1) P l (encs x) W1 fun e W' => e = .returned (.bool true) ∧ J (pre ++ [x]) W' ∧ Keeps2 n0 W.heap.size W1 W') →
    J [] W → CallsIn Fence.wide n P gf (#[.func (.yield l) #[] #[]] ++ lb) W fun e W' => (∃ v, e = .returned v) ∧ ∃ xs, S xs ∧ J xs W'
theorem wpIn_range_low {α : Type} {P : Program} {n : Nat} {g : Operand} {ps : Array Tmp} {assign body : Code} {Q : Exit → Act → World → Prop} {a : Act} {w : World} {gf : Nat} {lb : Array Value} (hg : a.eval g = .func (.func gf) #[] lb)
    (eg : ∀ args w, (callFunc gf args).run P w = .ok (.enter gf args) w) {encs : α → Array Value} {n0 : Nat} (hn0 : n0 ≤ w.heap.size) {R : List α → α → Prop} {S : List α → Prop} (hseq : SeqLow (n - 1) P gf lb encs n0 R S w) (hps : ∀ x, (encs x).size = ps.size)
    (I : List α → World → Prop) (hI : Low w.heap.size I) (h0 : I [] w) (a₁ : α → Act)
    (hassign : ∀ (l : Nat) (x : α) (W : World) (K : Act → World → Prop), K (a₁ x) W → assign.wpIn (Fence.wide.inRound l) (n - 1 - 1) P (Exit.then K (fun _ _ _ => False)) { tmps := (ps.zip (encs x)).foldl (fun t (p, v) => t.setIfInBounds p v) a.tmps, defers := [] } W)
    (hbody : ∀ (l : Nat) (pre : List α) (x : α) (W : World), I pre W → R pre x → w.heap.size + 2 ≤ W.heap.size → body.wpIn (Fence.wide.inRound l) (n - 1 - 1) P (fun e _ W' => e = .normal ∧ I (pre ++ [x]) W' ∧ Keeps2 n0 w.heap.size W W') (a₁ x) W)
    (hdone : ∀ (xs : List α) (W : World), S xs → I xs W → W.heap[w.heap.size]? = some (.deferred (some [])) → Q .normal { a with defers := { target := .collected w.heap.size, args := #[] } :: a.defers } W) :
    (Code.rangeFunc g ps assign body).wpIn Fence.wide n P Q a w := by
  refine wpIn_rangeFunc fun fn hfn => ?_
  obtain ⟨rc, hrc⟩ : ∃ rc : LoopState → Option Code → Loop, rc = fun st pe => { state := st, pending := pe, fn, tmps := a.tmps, params := ps, assign, body, defers := w.heap.size } := ⟨_, rfl⟩
  obtain ⟨W1, hW1⟩ : ∃ W1, (w.alloc (.deferred (some []))).alloc (.loop (rc .ready none)) = W1 := ⟨_, rfl⟩
  have hz1 : W1.heap.size = w.heap.size + 2 := by rw [← hW1]; simp
  have hb1 : Below w.heap.size w W1 := by rw [← hW1]; exact ((Below.refl _ w).alloc (Nat.le_refl _) _).alloc (by simp) _
  have hL1 : W1.heap[w.heap.size + 1]? = some (.loop (rc .ready none)) := by
    rw [← hW1]; have := World.alloc_heap_new (w.alloc (.deferred (some []))) (.loop (rc .ready none)); rwa [World.size_alloc] at this
  have hD1 : W1.heap[w.heap.size]? = some (.deferred (some [])) := by
    rw [← hW1]; exact (Below.heap_alloc _ _ _ (by simp)).trans (World.alloc_heap_new w _)
  refine ⟨w.heap.size + 1, [{ target := .collected w.heap.size, args := #[] }], W1, { target := .fn (.func gf) lb, args := #[.func (.yield (w.heap.size + 1)) #[] #[]] }, W1, gf,
    #[.func (.yield (w.heap.size + 1)) #[] #[]] ++ lb, W1, ?_, ?_, fun _ _ => trivial, ?_, fun e => (by cases e), ?_⟩
  · rw [← hW1, hrc]; exact run_enterLoop_outer _ _ _ _ _
  · simp only [resolve, hg]
    simp [go_sem]
  · simp [invoke, go_sem, eg]
  · refine (hseq (w.heap.size + 1) (fun pre W => I pre W ∧ W.heap[w.heap.size + 1]? = some (.loop (rc .ready none)) ∧ W.heap[w.heap.size]? = some (.deferred (some []))) W1 hb1
      (fun s A A' hs hb => ⟨hI s A A' hs.1 (hb.mono (by omega)), (hb.block _ (by omega)).trans hs.2.1, (hb.block _ (by omega)).trans hs.2.2⟩) ?_ ⟨hI _ _ _ h0 hb1, hL1, hD1⟩).mono ?_
    · rintro pre x W ⟨hi, hl, hd⟩ hR hsz
      have hy := run_yield (P := P) (args := encs x) hl (by rw [hrc]; exact hps x)
      have hfn' : (rc .ready none).fn = fn := by rw [hrc]
      refine ⟨fn, _, assign, body, by rw [hrc] at hy; exact hy, roundIn_of_wpIn hfn (hassign _ x W _ ?_)⟩
      clear hy
      have hlt : w.heap.size + 1 < W.heap.size := by omega
      refine ⟨_, run_beginRound hl (by rw [hrc]), ?_⟩
      obtain ⟨W2, hW2⟩ : ∃ W2, W.putObj (w.heap.size + 1) (.loop { rc .ready none with state := .busy }) = W2 := ⟨_, rfl⟩
      have hl2 : W2.heap[w.heap.size + 1]? = some (.loop { rc .ready none with state := .busy }) := by rw [← hW2]; exact World.putObj_heap_same hlt
      have ho2 : ∀ j, j ≠ w.heap.size + 1 → W2.heap[j]? = W.heap[j]? := fun j hj => by rw [← hW2]; exact World.putObj_heap_other hj
      have hz2 : W2.heap.size = W.heap.size := by rw [← hW2]; simp [World.putObj]
      have hi2 : I pre W2 := hI _ _ _ hi (by rw [← hW2]; exact below_putObj (Below.refl _ _) (by omega) (by omega) _)
      rw [hW2]
      clear hW2
      refine wpIn_mono (hbody _ pre x W2 hi2 hR (by omega)) ?_
      rintro e a3 W3 ⟨rfl, hi3, hk3⟩
      have hl3 : W3.heap[w.heap.size + 1]? = some (.loop { rc .ready none with state := .busy }) := (hk3.2 _ (.inr (by omega)) (by omega)).trans hl2
      have hr := run_endRound (P := P) none hl3
      have hlt3 : w.heap.size + 1 < W3.heap.size := (Array.getElem?_eq_some_iff.1 hl3).1
      have hz3 := hk3.1
      refine ⟨_, _, hr, rfl, ⟨hI _ _ _ hi3 (below_putObj (Below.refl _ _) (by omega) (by omega) _), ?_, ?_⟩, ?_, ?_⟩
      · rw [World.putObj_heap_same hlt3]
        rw [hrc]
        rfl
      · exact (World.putObj_heap_other (by omega)).trans ((hk3.2 _ (.inr (Nat.le_refl _)) (by omega)).trans ((ho2 _ (by omega)).trans hd))
      · have : (W3.putObj (w.heap.size + 1) (.loop { rc .ready none with state := .ready, pending := none })).heap.size = W3.heap.size := by simp [World.putObj]
        simp [World.putObj]
        omega
      · intro j hj hjl
        have hne : j ≠ w.heap.size + 1 := by omega
        exact (World.putObj_heap_other hne).trans ((hk3.2 j (by omega) (by omega)).trans (ho2 j hne))
    · rintro e W2 ⟨⟨v, rfl⟩, xs, hS, hi, hl, hd⟩
      refine ⟨none, _, by have := run_endLoop (P := P) hl (by rw [hrc]; simp); rw [hrc] at this; exact this, hdone xs _ hS (hI _ _ _ hi ?_) ((World.putObj_heap_other (by omega)).trans hd)⟩
      have hlt2 := (Array.getElem?_eq_some_iff.1 hl).1
      exact below_putObj (Below.refl _ _) (by omega) (by omega) _
end Go.Proofs.Ytafhpplhlmlfhaa
