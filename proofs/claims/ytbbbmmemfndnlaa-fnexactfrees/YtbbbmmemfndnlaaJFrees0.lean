/- My own texts, joined: Fo Qm Dm Om LexA LexB LexC DecA OkA OkK OkB OkC OkD OkL OkM. -/
import Derived.Test.YtbbbmmemfndnlaaProg
import Derived.WalkKit
import Derived.Below
import Derived.Lib.SmallJoins
import Derived.Test.YtbbbmmemfndnlaaRows
import Derived.WalkSpells
import Derived.WalkLawsBesides
import Derived.Deep.QuietTactic
import Derived.BigQuiet
import Derived.Deep.RegionHeld3
import Derived.Deep.DeepCutAuto
/- Trees: a list of trees as it lies in memory. Its first, what stands below the first, and the rest. -/
namespace Go.Proofs.Ytbbbmmemfndnlaa
open Go.RowKit
/-- a list of trees: kind, text, number, where its own list lies (with length and capacity), that list, the rest -/
inductive Fo
  | nil
  | cons (kind : Int) (text : ByteArray) (man exp : Int) (at_ : Option Addr) (cap : Nat) (kids : Fo) (next : Fo)
def Fo.len : Fo → Nat
  | .nil => 0
  | .cons _ _ _ _ _ _ _ next => next.len + 1
def Fo.size : Fo → Nat
  | .nil => 0
  | .cons _ _ _ _ _ _ kids next => kids.size + 1 + next.size
def Fo.deep : Fo → Nat
  | .nil => 0
  | .cons _ _ _ _ _ _ kids next => max (kids.deep + 1) next.deep
/-- what the laws' own measure counts -/
def Fo.wt : Fo → Nat
  | .nil => 0
  | .cons _ t _ _ _ _ kids next => t.size + kids.wt + 1 + next.wt
theorem Fo.len_wt (F : Fo) : F.len ≤ F.wt := by
  induction F with
  | nil => exact Nat.le_refl _
  | cons k t m e a c kids next _ ih => show next.len + 1 ≤ t.size + kids.wt + 1 + next.wt; omega
theorem Fo.size_wt (F : Fo) : F.size ≤ F.wt := by
  induction F with
  | nil => exact Nat.le_refl _
  | cons k t m e a c kids next ih1 ih2 => show kids.size + 1 + next.size ≤ t.size + kids.wt + 1 + next.wt; omega
/-- what is left, or -1 -/
def leftOf (need l : Nat) : Int := if need ≤ l then ((l - need : Nat) : Int) else -1
theorem Fo.len_le (F : Fo) : F.len ≤ F.size := by
  induction F with
  | nil => exact Nat.le_refl _
  | cons k t m e a c kids next _ ih => show next.len + 1 ≤ kids.size + 1 + next.size; omega
theorem Fo.deep_le (F : Fo) : F.deep ≤ F.size := by
  induction F with
  | nil => exact Nat.le_refl _
  | cons k t m e a c kids next ih1 ih2 => show max (kids.deep + 1) next.deep ≤ kids.size + 1 + next.size; omega
/-- the list lies from cell o of block b on -/
def Fo.From (w : World) : Fo → Nat → Nat → Prop
  | .nil, _, _ => True
  | .cons k t m e a c kids next, b, o =>
    (w.cell? ⟨b, o, none⟩ = some (.int .i64 k) ∧ w.cell? ⟨b, o + 1, none⟩ = some (.string t) ∧ w.cell? ⟨b, o + 2, none⟩ = some (.int .i64 m) ∧ w.cell? ⟨b, o + 3, none⟩ = some (.int .i64 e) ∧ w.cell? ⟨b, o + 4, none⟩ = some (.slice a kids.len c)) ∧
    (kids = .nil ∨ ∃ b' o', a = some ⟨b', o', none⟩ ∧ kids.From w b' o') ∧ kids.len ≤ c ∧ c ≤ maxLen ∧ t.size ≤ maxLen ∧ next.From w b (o + 5)
/-- the list of a slice -/
def Fo.In (w : World) (F : Fo) (a : Option Addr) : Prop := F = .nil ∨ ∃ b o, a = some ⟨b, o, none⟩ ∧ F.From w b o
theorem Fo.from_below {B : Nat} {w w' : World} (h : Below B w w') : ∀ (F : Fo) (b o : Nat), F.From w b o → (∀ b' o' v, w.cell? ⟨b', o', none⟩ = some v → b' < B) → F.From w' b o := by
  intro F
  induction F with
  | nil => intro b o _ _; trivial
  | cons k t m e a c kids next ih1 ih2 =>
    rintro b o ⟨⟨h1, h2, h3, h4, h5⟩, hk, hc, hm, ht, hn⟩ hlt
    have hb : b < B := hlt _ _ _ h1
    refine ⟨⟨(h.cell (p := ⟨b, o, none⟩) hb).trans h1, (h.cell (p := ⟨b, o + 1, none⟩) hb).trans h2, (h.cell (p := ⟨b, o + 2, none⟩) hb).trans h3, (h.cell (p := ⟨b, o + 3, none⟩) hb).trans h4, (h.cell (p := ⟨b, o + 4, none⟩) hb).trans h5⟩, ?_, hc, hm, ht, ih2 _ _ hn hlt⟩
    rcases hk with hk | ⟨b', o', e1, e2⟩
    · exact .inl hk
    · exact .inr ⟨b', o', e1, ih1 _ _ e2 hlt⟩
theorem Fo.from_grow {w w' : World} (h : Below w.heap.size w w') (F : Fo) (b o : Nat) (hF : F.From w b o) : F.From w' b o :=
  Fo.from_below h F b o hF fun _ _ _ hc => World.block_lt_of_cell? w _ hc
theorem Fo.In.grow {w w' : World} {F : Fo} {a : Option Addr} (hF : F.In w a) (h : Below w.heap.size w w') : F.In w' a := by
  rcases hF with rfl | ⟨b, o, rfl, hF⟩
  · exact .inl rfl
  · exact .inr ⟨b, o, rfl, Fo.from_grow h F b o hF⟩
/-- a tree's value -/
abbrev nodeV (k : Int) (t : ByteArray) (m e : Int) (a : Option Addr) (n c : Nat) : Value := .agg #[.int .i64 k, .string t, .int .i64 m, .int .i64 e, .slice a n c]

end Go.Proofs.Ytbbbmmemfndnlaa
/- Plain mathematics of chapter 2: letters, figures, runs, names, words. -/
namespace Go.Proofs.Ytbbbmmemfndnlaa.Qm

def low (c : Int) : Bool := (decide (97 ≤ c) && decide (c ≤ 122)) || decide (c = 95)
def fig (c : Int) : Bool := decide (48 ≤ c) && decide (c ≤ 57)
def part (c : Int) : Bool := low c || fig c
def okAt (k : Nat) (c : Int) : Bool := low c || (decide (k ≠ 0) && fig c)
def letters : Nat → List UInt8 → Bool
  | _, [] => true
  | k, c :: t => okAt k c.toNat && letters (k + 1) t
def run (p : Int → Bool) : List UInt8 → Nat
  | [] => 0
  | c :: t => if p c.toNat then 1 + run p t else 0
/-- the words that are no names -/
def words : List (List UInt8) := [[110, 117, 108, 108], [116, 114, 117, 101], [102, 97, 108, 115, 101], [105, 102], [116, 104, 101, 110], [101, 108, 115, 101], [108, 111, 99, 97, 108], [102, 117, 110, 99, 116, 105, 111, 110], [115, 101, 108, 102], [115, 117, 112, 101, 114], [101, 114, 114, 111, 114], [105, 109, 112, 111, 114, 116], [102, 111, 114], [105, 110], [115, 116, 100]]
def has : List (List UInt8) → List UInt8 → Bool
  | [], _ => false
  | x :: t, l => (l == x) || has t l
def name (s : ByteArray) : Bool := letters 0 s.data.toList && (decide (1 ≤ s.size) && decide (s.size ≤ 12)) && !has words s.toList

theorem len_eq (s : ByteArray) : s.data.toList.length = s.size := by rw [Array.length_toList]; rfl
theorem drop_at (s : ByteArray) (k : Nat) (h : k < s.size) : s.data.toList.drop k = s[k] :: s.data.toList.drop (k + 1) := by
  rw [List.drop_eq_getElem_cons (by simpa using h)]; rfl
theorem drop_end (s : ByteArray) (k : Nat) (h : ¬ k < s.size) : s.data.toList.drop k = [] := by
  apply List.drop_eq_nil_of_le; simpa using h
theorem letters_step (s : ByteArray) (k : Nat) (h : k < s.size) : letters k (s.data.toList.drop k) = (okAt k s[k].toNat && letters (k + 1) (s.data.toList.drop (k + 1))) := by
  rw [drop_at s k h]; rfl
theorem run_step (p : Int → Bool) (s : ByteArray) (k : Nat) (h : k < s.size) : run p (s.data.toList.drop k) = if p s[k].toNat then 1 + run p (s.data.toList.drop (k + 1)) else 0 := by
  rw [drop_at s k h]; rfl
theorem run_end (p : Int → Bool) (s : ByteArray) (k : Nat) (h : ¬ k < s.size) : run p (s.data.toList.drop k) = 0 := by
  rw [drop_end s k h]; rfl
theorem run_le (p : Int → Bool) (l : List UInt8) : run p l ≤ l.length := by
  induction l with
  | nil => exact Nat.le_refl _
  | cons c t ih => simp only [run, List.length_cons]; split <;> omega
theorem run_iff (p : Int → Bool) (l : List UInt8) : run p l = l.length ↔ l.all (fun c => p c.toNat) = true := by
  induction l with
  | nil => simp [run]
  | cons c t ih =>
    have := run_le p t
    by_cases h : p c.toNat = true
    · have e : run p (c :: t) = 1 + run p t := by simp [run, h]
      rw [e, List.all_cons, h, Bool.true_and, ← ih, List.length_cons]; omega
    · have e : run p (c :: t) = 0 := by simp [run, h]
      rw [e, List.all_cons, Bool.eq_false_iff.2 h]; simp
theorem run_all (p : Int → Bool) (l : List UInt8) : decide (run p l = l.length) = l.all (fun c => p c.toNat) := by
  rw [Bool.eq_iff_iff, decide_eq_true_iff]; exact run_iff p l
theorem letters_succ (k : Nat) (l : List UInt8) : letters (k + 1) l = l.all (fun c => part c.toNat) := by
  induction l generalizing k with
  | nil => rfl
  | cons c t ih => simp only [letters, List.all_cons, ih (k + 1)]; simp [okAt, part]
theorem letters_part (c : UInt8) (t : List UInt8) : letters 0 (c :: t) = (low c.toNat && decide (run part (c :: t) = (c :: t).length)) := by
  rw [run_all]; simp only [letters, letters_succ, List.all_cons]
  simp [okAt, part]
  cases low c.toNat <;> simp
/-- how the program asks it -/
theorem name_eq (s : ByteArray) (h : 0 < s.size) : name s = (decide (s.size ≤ 12) && (low s[0].toNat && (decide (run part s.data.toList = s.size) && !has words s.toList))) := by
  unfold name
  have e : s.data.toList = s[0] :: s.data.toList.drop 1 := by have := drop_at s 0 h; simpa using this
  have e1 : letters 0 s.data.toList = (low s[0].toNat && decide (run part s.data.toList = s.size)) := by
    have h2 := letters_part s[0] (s.data.toList.drop 1)
    rw [← e] at h2
    rw [h2]; simp
  rw [e1]
  have h1 : decide (1 ≤ s.size) = true := decide_eq_true h
  rw [h1]
  cases decide (s.size ≤ 12) <;> cases low s[0].toNat <;> cases decide (run part s.data.toList = s.size) <;> simp
theorem name_none (s : ByteArray) (h : ¬ 0 < s.size) : name s = false := by
  unfold name
  have : decide (1 ≤ s.size) = false := by simpa using h
  rw [this]; simp
theorem name_long (s : ByteArray) (h : ¬ s.size ≤ 12) : name s = false := by
  unfold name
  have : decide (s.size ≤ 12) = false := by simpa using h
  rw [this]; simp
theorem has_drop (L : List (List UInt8)) (l : List UInt8) (k : Nat) (h : k < L.length) : has (L.drop k) l = ((l == L[k]) || has (L.drop (k + 1)) l) := by
  rw [List.drop_eq_getElem_cons h]; rfl
theorem has_end (L : List (List UInt8)) (l : List UInt8) (k : Nat) (h : ¬ k < L.length) : has (L.drop k) l = false := by
  rw [List.drop_eq_nil_of_le (by omega)]; rfl
end Go.Proofs.Ytbbbmmemfndnlaa.Qm
/- Plain mathematics of decimals: no program in it. -/
namespace Go.Proofs.Ytbbbmmemfndnlaa.Dm
def strip : Nat → Int → Int → Int × Int
  | 0, m, e => (m, e)
  | k + 1, m, e => if m.tmod 10 = 0 then strip k (m.tdiv 10) (e + 1) else (m, e)

theorem strip_at (k : Nat) (m e : Int) (h : m.tmod 10 ≠ 0) : strip k m e = (m, e) := by
  cases k with
  | zero => rfl
  | succ k => rw [strip, if_neg h]

/-- in its form -/
def ok (m e : Int) : Bool := if m = 0 then e == 0 else decide (-99999999 ≤ m) && decide (m ≤ 99999999) && decide (-8 ≤ e) && decide (e ≤ 8) && (m.tmod 10 != 0)
theorem ok_iff (m e : Int) : ok m e = true ↔ (m = 0 ∧ e = 0) ∨ (m ≠ 0 ∧ -99999999 ≤ m ∧ m ≤ 99999999 ∧ -8 ≤ e ∧ e ≤ 8 ∧ m.tmod 10 ≠ 0) := by
  unfold ok
  by_cases h : m = 0 <;> simp [h, and_assoc]
/-- the number in its form, if it has room -/
def norm (m e : Int) : Int × Int × Bool :=
  if m = 0 then (0, 0, true) else if ok (strip 20 m e).1 (strip 20 m e).2 then ((strip 20 m e).1, (strip 20 m e).2, true) else (0, 0, false)
/-- what a stripping loop has come to behind j rounds -/
def Strip (m e : Int) (j : Nat) (m' e' : Int) : Prop :=
  m' ≠ 0 ∧ m'.natAbs * 10 ^ j ≤ 1000000000000000000 ∧ e' = e + j ∧ strip (20 - j) m' e' = strip 20 m e
theorem pow10_le {a j : Nat} (ha : 1 ≤ a) (h : a * 10 ^ j ≤ 1000000000000000000) : j ≤ 18 := by
  by_cases hj : j ≤ 18
  · exact hj
  · have h1 : 10 ^ 19 ≤ 10 ^ j := Nat.pow_le_pow_right (by omega) (by omega)
    have h2 : 1 * 10 ^ j ≤ a * 10 ^ j := Nat.mul_le_mul_right _ ha
    omega
theorem Strip.bound {m e m' e' : Int} {j : Nat} (h : Strip m e j m' e') : j ≤ 18 ∧ -1000000000000000000 ≤ m' ∧ m' ≤ 1000000000000000000 := by
  obtain ⟨h0, h1, h2, h3⟩ := h
  have hj := pow10_le (a := m'.natAbs) (by omega) h1
  have : m'.natAbs * 1 ≤ m'.natAbs * 10 ^ j := Nat.mul_le_mul_left _ (Nat.one_le_pow j 10 (by omega))
  omega
theorem Strip.stop {m e m' e' : Int} {j : Nat} (h : Strip m e j m' e') (hz : m'.tmod 10 ≠ 0) : strip 20 m e = (m', e') := by
  obtain ⟨h0, h1, h2, h3⟩ := h
  rw [← h3, strip_at _ _ _ hz]
/-- DecNew -/
def new (m e : Int) : Int × Int × Bool :=
  if (-100000000000000000 ≤ m ∧ m ≤ 100000000000000000) ∧ (-32 ≤ e ∧ e ≤ 32) then norm m e else (0, 0, false)
/-- a whole number times a power of ten -/
def p10 (k : Int) : Int := (10 : Int) ^ k.toNat
/-- manAt -/
def manAt (m x p : Int) : Int × Bool := if m = 0 then (0, true) else if 8 < x - p then (0, false) else (m * p10 (x - p), true)
/-- l1Up behind so many rounds: nothing, if it went too far on the way -/
def up : Nat → Int → Int × Bool
  | 0, n => (n, true)
  | k + 1, n => if 1000000000 < n * 10 ∨ n * 10 < -1000000000 then (0, false) else up k (n * 10)
/-- DecAdd of two in their form -/
def add1 (m x n y : Int) : Int × Int × Bool :=
  if (manAt m x (min x y)).2 = true ∧ (manAt n y (min x y)).2 = true then new ((manAt m x (min x y)).1 + (manAt n y (min x y)).1) (min x y) else (0, 0, false)
def add (m x n y : Int) : Int × Int × Bool := if ok m x = true ∧ ok n y = true then add1 m x n y else (0, 0, false)
/-- DecSub -/
def sub (m x n y : Int) : Int × Int × Bool := if ok m x = true ∧ ok n y = true then add1 m x (-n) y else (0, 0, false)
end Go.Proofs.Ytbbbmmemfndnlaa.Dm
/- Which trees are ok: plain mathematics over lists of trees. -/
namespace Go.Proofs.Ytbbbmmemfndnlaa
/-- what stands at a place of a list -/
def Fo.kindAt : Fo → Nat → Int
  | .nil, _ => 0
  | .cons k _ _ _ _ _ _ _, 0 => k
  | .cons _ _ _ _ _ _ _ next, i + 1 => next.kindAt i
def Fo.textAt : Fo → Nat → ByteArray
  | .nil, _ => ⟨#[]⟩
  | .cons _ t _ _ _ _ _ _, 0 => t
  | .cons _ _ _ _ _ _ _ next, i + 1 => next.textAt i
def Fo.manAt : Fo → Nat → Int
  | .nil, _ => 0
  | .cons _ _ m _ _ _ _ _, 0 => m
  | .cons _ _ _ _ _ _ _ next, i + 1 => next.manAt i
def Fo.expAt : Fo → Nat → Int
  | .nil, _ => 0
  | .cons _ _ _ e _ _ _ _, 0 => e
  | .cons _ _ _ _ _ _ _ next, i + 1 => next.expAt i
def Fo.addrAt : Fo → Nat → Option Addr
  | .nil, _ => none
  | .cons _ _ _ _ a _ _ _, 0 => a
  | .cons _ _ _ _ _ _ _ next, i + 1 => next.addrAt i
def Fo.capAt : Fo → Nat → Nat
  | .nil, _ => 0
  | .cons _ _ _ _ _ c _ _, 0 => c
  | .cons _ _ _ _ _ _ _ next, i + 1 => next.capAt i
def Fo.kidsAt : Fo → Nat → Fo
  | .nil, _ => .nil
  | .cons _ _ _ _ _ _ kids _, 0 => kids
  | .cons _ _ _ _ _ _ _ next, i + 1 => next.kidsAt i
theorem Fo.from_at : ∀ {F : Fo} {w : World} {b o i : Nat}, F.From w b o → i < F.len →
    (w.cell? ⟨b, o + i * 5, none⟩ = some (.int .i64 (F.kindAt i)) ∧ w.cell? ⟨b, o + i * 5 + 1, none⟩ = some (.string (F.textAt i)) ∧ w.cell? ⟨b, o + i * 5 + 2, none⟩ = some (.int .i64 (F.manAt i)) ∧ w.cell? ⟨b, o + i * 5 + 3, none⟩ = some (.int .i64 (F.expAt i)) ∧
      w.cell? ⟨b, o + i * 5 + 4, none⟩ = some (.slice (F.addrAt i) (F.kidsAt i).len (F.capAt i))) ∧ (F.kidsAt i).In w (F.addrAt i) ∧ (F.kidsAt i).len ≤ F.capAt i ∧ F.capAt i ≤ maxLen ∧ (F.textAt i).size ≤ maxLen := by
  intro F
  induction F with
  | nil => intro w b o i _ h; exact absurd h (Nat.not_lt_zero _)
  | cons k t m e a c kids next _ ih =>
    rintro w b o i ⟨hc, hk, h1, h2, h3, hn⟩ hi
    cases i with
    | zero => simp only [Nat.zero_mul, Nat.add_zero]; exact ⟨hc, hk, h1, h2, h3⟩
    | succ i =>
      have := ih hn (show i < next.len from Nat.lt_of_succ_lt_succ hi)
      rw [show o + 5 + i * 5 = o + (i + 1) * 5 by omega] at this
      exact this
theorem Fo.size_at : ∀ {F : Fo} {i : Nat}, i < F.len → (F.kidsAt i).size < F.size := by
  intro F
  induction F with
  | nil => intro i h; exact absurd h (Nat.not_lt_zero _)
  | cons k t m e a c kids next _ ih =>
    intro i hi
    cases i with
    | zero => show kids.size < kids.size + 1 + next.size; omega
    | succ i => have := ih (show i < next.len from Nat.lt_of_succ_lt_succ hi); show (next.kidsAt i).size < kids.size + 1 + next.size; omega
/-- of the first n how many are of a kind -/
def Fo.cnt (F : Fo) (q : Int) : Nat → Nat
  | 0 => 0
  | n + 1 => F.cnt q n + (if F.kindAt n = q then 1 else 0)
theorem Fo.cnt_le (F : Fo) (q : Int) (n : Nat) : F.cnt q n ≤ n := by
  induction n with
  | zero => exact Nat.le_refl _
  | succ n ih => show F.cnt q n + (if F.kindAt n = q then 1 else 0) ≤ n + 1; split <;> omega
/-- the text at a place is none of those ahead of it -/
def Fo.newAt (F : Fo) (i : Nat) : Nat → Bool
  | 0 => true
  | j + 1 => F.newAt i j && !((F.textAt i).toList == (F.textAt j).toList)
/-- of the first n no two have one text -/
def Fo.dist (F : Fo) : Nat → Bool
  | 0 => true
  | n + 1 => F.dist n && F.newAt n n
theorem Fo.newAt_false {F : Fo} {i j n : Nat} (h : ((F.textAt i).toList == (F.textAt j).toList) = true) (hj : j < n) : F.newAt i n = false := by
  induction n with
  | zero => omega
  | succ n ih =>
    show (F.newAt i n && !((F.textAt i).toList == (F.textAt n).toList)) = false
    rcases Nat.lt_succ_iff_lt_or_eq.1 hj with hj | rfl
    · rw [ih hj]; rfl
    · rw [h]; simp
theorem Fo.dist_false {F : Fo} {i n : Nat} (h : F.newAt i i = false) (hi : i < n) : F.dist n = false := by
  induction n with
  | zero => omega
  | succ n ih =>
    show (F.dist n && F.newAt n n) = false
    rcases Nat.lt_succ_iff_lt_or_eq.1 hi with hi | rfl
    · rw [ih hi]; rfl
    · rw [h]; simp
namespace Om
def std1 : List (List UInt8) := [[108, 101, 110, 103, 116, 104], [107, 101, 121, 115], [116, 101, 120, 116], [116, 121, 112, 101], [115, 111, 114, 116], [114, 97, 110, 103, 101]]
def std2 : List (List UInt8) := [[109, 97, 112], [102, 105, 108, 116, 101, 114], [106, 111, 105, 110], [104, 97, 115]]
def std3 : List (List UInt8) := [[102, 111, 108, 100]]
/-- how many a function that is there from the beginning is given -/
def std (l : List UInt8) : Nat := if Qm.has std1 l then 1 else if Qm.has std2 l then 2 else if Qm.has std3 l then 3 else 0
theorem std_le (l : List UInt8) : std l ≤ 3 := by unfold std; split <;> (try split) <;> (try split) <;> omega
/-- signs between two -/
def signs : List (List UInt8) := [[124, 124], [38, 38], [61, 61], [33, 61], [60], [60, 61], [62], [62, 61], [43], [45], [42], [47], [37]]
/-- how many a kind has below, at least and at most -/
def low (k : Int) : Nat := if k = 10 ∨ k = 11 ∨ k = 12 ∨ k = 18 then 1 else if k = 13 ∨ k = 15 ∨ k = 19 ∨ k = 21 then 2 else if k = 14 then 3 else if k = 16 ∨ k = 17 then 1 else 0
def high (k : Int) : Nat := if k = 10 ∨ k = 11 ∨ k = 12 ∨ k = 18 then 1 else if k = 13 ∨ k = 15 ∨ k = 19 ∨ k = 21 then 2 else if k = 14 then 3 else if k = 16 ∨ k = 17 ∨ k = 20 ∨ k = 22 ∨ k = 24 then 8 else 0
/-- the program's table has them so for a field and for a function that is there from the beginning -/
def low' (k : Int) : Nat := if k = 23 ∨ k = 24 then 1 else low k
def high' (k : Int) : Nat := if k = 23 then 1 else if k = 24 then 3 else high k
/-- the sort of text: 0 none, 1 short, 2 a name, 3 a sign, 4 a function -/
def sort (k : Int) : Nat := if k = 5 then 1 else if k = 6 ∨ k = 8 ∨ k = 18 ∨ k = 15 ∨ k = 21 ∨ k = 9 ∨ k = 23 then 2 else if k = 13 then 3 else if k = 24 then 4 else 0
def textOf (q : Nat) (t : ByteArray) : Bool := if q = 1 then decide (t.size ≤ 1500) else if q = 2 then Qm.name t else if q = 3 then Qm.has signs t.toList else if q = 4 then decide (0 < std t.toList) else (t.toList == [])
/-- the number is as the kind asks -/
def num (k m e : Int) : Bool := if k = 4 then Dm.ok m e && decide (0 ≤ m) else if k = 23 then decide (e = 0) && (decide (0 ≤ m) && decide (m ≤ 2)) else decide (m = 0) && decide (e = 0)
/-- what is right below is as the kind asks -/
def below (k : Int) (t : ByteArray) (F : Fo) : Bool :=
  if k = 22 then decide (F.cnt 23 F.len = F.len) && F.dist F.len
  else if k = 16 then decide (F.cnt 6 (F.len - 1) = F.len - 1) && (F.dist (F.len - 1) && decide (F.cnt 23 F.len = 0))
  else if k = 24 then decide (std t.toList = F.len) && decide (F.cnt 23 F.len = 0)
  else decide (F.cnt 23 F.len = 0)
/-- a node with those right below is as its kind asks -/
def fit (k : Int) (t : ByteArray) (m e : Int) (F : Fo) : Bool :=
  (decide (1 ≤ k) && decide (k ≤ 24)) && ((decide (low' k ≤ F.len) && decide (F.len ≤ high' k)) && textOf (sort k) t) && (num k m e && below k t F)
end Om
end Go.Proofs.Ytbbbmmemfndnlaa
/- Contracts of the leaves of chapter 2: letters, figures, runs, words, NameOk of both sides. -/
namespace Go.Proofs.Ytbbbmmemfndnlaa
open Go.RowKit

theorem lret_bool {a b : Bool} (h : a = b) : Ending.returned (.bool a) = .returned (.bool b) := by rw [h]
theorem lret_int {k : IntKind} {a b : Int} (h : a = b) : Ending.returned (.int k a) = .returned (.int k b) := by rw [h]

set_option maxHeartbeats 400000 in
theorem isLetter_any (c : Int) (w : World) :
    Calls Try.prog 61 #[.int .u8 c] w fun e w' => e = .returned (.bool (Qm.low c)) ∧ w' = w := by
  go_enter Try.func61, Try.ntmps61
  go_wp2
  all_goals
    go_ret
    exact ⟨lret_bool (by rw [Bool.eq_iff_iff]; simp [Qm.low]; try omega), rfl⟩
set_option maxHeartbeats 400000 in
theorem l2Low_any (c : Int) (w : World) :
    Calls Try.prog 85 #[.int .u8 c] w fun e w' => e = .returned (.bool (Qm.low c)) ∧ w' = w := by
  go_enter Try.func85, Try.ntmps85
  go_wp2
  all_goals
    go_ret
    exact ⟨lret_bool (by rw [Bool.eq_iff_iff]; simp [Qm.low]; try omega), rfl⟩
set_option maxHeartbeats 400000 in
theorem isFigure_any (c : Int) (w : World) :
    Calls Try.prog 87 #[.int .u8 c] w fun e w' => e = .returned (.bool (Qm.fig c)) ∧ w' = w := by
  go_enter Try.func87, Try.ntmps87
  go_wp2
  all_goals
    go_ret
    exact ⟨lret_bool (by rw [Bool.eq_iff_iff]; simp [Qm.fig]; try omega), rfl⟩
set_option maxHeartbeats 400000 in
theorem l2Figure_any (c : Int) (w : World) :
    Calls Try.prog 86 #[.int .u8 c] w fun e w' => e = .returned (.bool (Qm.fig c)) ∧ w' = w := by
  go_enter Try.func86, Try.ntmps86
  go_wp2
  all_goals
    go_ret
    exact ⟨lret_bool (by rw [Bool.eq_iff_iff]; simp [Qm.fig]; try omega), rfl⟩
set_option maxHeartbeats 400000 in
theorem isNamePart_any (c : Int) (w : World) :
    Calls Try.prog 63 #[.int .u8 c] w fun e w' => e = .returned (.bool (Qm.part c)) ∧ w' = w := by
  go_enter Try.func63, Try.ntmps63
  go_wp2_with (first | (go_at_call 61; refine (isLetter_any _ _).mono ?_; rintro e w' ⟨rfl, rfl⟩) | (go_at_call 87; refine (isFigure_any _ _).mono ?_; rintro e w' ⟨rfl, rfl⟩))
  all_goals
    go_ret
    exact ⟨lret_bool (by simp_all [Qm.part]), rfl⟩
set_option maxHeartbeats 400000 in
theorem l1In_l (n a b : Int) (w : World) :
    Calls Try.prog 72 #[.int .i64 n, .int .i64 a, .int .i64 b] w fun e w' => e = .returned (.bool (decide (a ≤ n) && decide (n ≤ b))) ∧ w' = w := by
  go_enter Try.func72, Try.ntmps72
  go_wp2
  all_goals
    go_ret
    exact ⟨lret_bool (by simp; try omega), rfl⟩

/-- how many bytes a text begins with that are name's parts -/
theorem runLength_part (s : ByteArray) (w : World) (hs : s.size ≤ maxLen) :
    Calls Try.prog 62 #[.string s, .func (.func 63) #[] #[]] w fun e w' => e = .returned (.int .i64 (Qm.run Qm.part s.data.toList)) ∧ w' = w := by
  unfold maxLen at hs
  go_enter Try.func62, Try.ntmps62
  go_wp2_with fail
  go_loop [5] (fun i => ∃ k : Nat, k ≤ s.size ∧ i = .int .i64 k ∧ Qm.run Qm.part s.data.toList = k + Qm.run Qm.part (s.data.toList.drop k)) (fun i => s.size - (intOf i).toNat)
  case atStart => exact ⟨0, Nat.zero_le _, rfl, by simp⟩
  case round =>
    obtain ⟨k, hk, rfl, hr⟩ := hrel
    have HR : Hid (Qm.run Qm.part s.data.toList = k + Qm.run Qm.part (s.data.toList.drop k)) := hr
    clear hr
    by_cases hlt : k < s.size
    · have HS : Hid (Qm.run Qm.part (s.data.toList.drop k) = if Qm.part s[k].toNat then 1 + Qm.run Qm.part (s.data.toList.drop (k + 1)) else 0) := Qm.run_step _ s k hlt
      cases hp : Qm.part s[k].toNat
      · go_wp2_with (go_at_call 63; refine (isNamePart_any _ _).mono ?_; rintro e w' ⟨rfl, rfl⟩)
        go_ret
        exact ⟨lret_int (by rw [HR.out, HS.out, hp]; simp), rfl⟩
      · go_wp2_with (go_at_call 63; refine (isNamePart_any _ _).mono ?_; rintro e w' ⟨rfl, rfl⟩)
        go_round
        case rel => exact ⟨k + 1, by omega, by go_num, by rw [HR.out, HS.out, hp]; simp; omega⟩
        case measure => simp [intOf]; omega
    · have HE := Qm.run_end Qm.part s k hlt
      have HE' : Hid (Qm.run Qm.part (s.data.toList.drop k) = 0) := HE
      clear HE
      go_wp2_with fail
      go_ret
      exact ⟨lret_int (by rw [HR.out, HE'.out]; simp), rfl⟩
end Go.Proofs.Ytbbbmmemfndnlaa
/- Contracts: words, l2Has, l2Letters, NameOk of both sides. -/
namespace Go.Proofs.Ytbbbmmemfndnlaa
open Go.RowKit

set_option maxHeartbeats 1000000 in
theorem isWord_any (s : ByteArray) (w : World) :
    Calls Try.prog 64 #[.string s] w fun e w' => e = .returned (.bool (Qm.has Qm.words s.toList)) ∧ w' = w := by
  generalize hl : s.toList = l
  cases h : Qm.has Qm.words l
  · simp only [Qm.words, Qm.has, Bool.or_eq_false_iff] at h
    obtain ⟨a1, a2, a3, a4, a5, a6, a7, a8, a9, a10, a11, a12, a13, a14, a15, _⟩ := h
    go_enter Try.func64, Try.ntmps64
    go_wp2_with fail
    go_ret
    exact ⟨rfl, rfl⟩
  · have hm : l ∈ Qm.words := by
      simp only [Qm.words, Qm.has, Bool.or_eq_true, beq_iff_eq] at h
      simp only [Qm.words, List.mem_cons, List.not_mem_nil, or_false]
      rcases h with h | h | h | h | h | h | h | h | h | h | h | h | h | h | h | h
      all_goals first | exact absurd h (by simp) | (subst h; simp)
    clear h
    simp only [Qm.words, List.mem_cons, List.not_mem_nil, or_false] at hm
    rcases hm with h | h | h | h | h | h | h | h | h | h | h | h | h | h | h
    all_goals
      subst h
      go_enter Try.func64, Try.ntmps64
      go_wp2_with fail
      go_ret
      exact ⟨rfl, rfl⟩
end Go.Proofs.Ytbbbmmemfndnlaa
/- Contracts: l2Words, l2Has. -/
namespace Go.Proofs.Ytbbbmmemfndnlaa
open Go.RowKit

/-- the words' texts, as they lie in memory -/
def wordTexts : Array Value := #[.string ⟨#[110, 117, 108, 108]⟩, .string ⟨#[116, 114, 117, 101]⟩, .string ⟨#[102, 97, 108, 115, 101]⟩, .string ⟨#[105, 102]⟩, .string ⟨#[116, 104, 101, 110]⟩, .string ⟨#[101, 108, 115, 101]⟩, .string ⟨#[108, 111, 99, 97, 108]⟩, .string ⟨#[102, 117, 110, 99, 116, 105, 111, 110]⟩, .string ⟨#[115, 101, 108, 102]⟩, .string ⟨#[115, 117, 112, 101, 114]⟩, .string ⟨#[101, 114, 114, 111, 114]⟩, .string ⟨#[105, 109, 112, 111, 114, 116]⟩, .string ⟨#[102, 111, 114]⟩, .string ⟨#[105, 110]⟩, .string ⟨#[115, 116, 100]⟩]
set_option maxHeartbeats 400000 in
theorem l2Words_any (w : World) :
    Calls Try.prog 60 #[] w fun e w' => e = .returned (.slice (some ⟨w.heap.size, 0, none⟩) 15 15) ∧ w' = w.alloc (.cells wordTexts 9) := by
  go_enter Try.func60, Try.ntmps60
  go_wp2_with fail
  go_ret
  exact ⟨rfl, rfl⟩

set_option maxHeartbeats 400000 in
theorem l2Has_any (b n : Nat) (S : List ByteArray) (s : ByteArray) (w : World) (hn : S.length = n) (hb : n ≤ 1000)
    (hc : ∀ k (h : k < S.length), w.cell? ⟨b, k, none⟩ = some (.string S[k])) :
    Calls Try.prog 37 #[.slice (some ⟨b, 0, none⟩) n n, .string s] w fun e w' => e = .returned (.bool (Qm.has (S.map ByteArray.toList) s.toList)) ∧ w' = w := by
  subst hn
  go_enter Try.func37, Try.ntmps37
  go_wp2_with fail
  go_loop [5] (fun i => ∃ k : Nat, k ≤ S.length ∧ i = .int .i64 k ∧ Qm.has (S.map ByteArray.toList) s.toList = Qm.has ((S.map ByteArray.toList).drop k) s.toList) (fun i => S.length - (intOf i).toNat)
  case atStart => exact ⟨0, Nat.zero_le _, rfl, by simp⟩
  case round =>
    obtain ⟨k, hk, rfl, hr⟩ := hrel
    have HR : Hid (Qm.has (S.map ByteArray.toList) s.toList = Qm.has ((S.map ByteArray.toList).drop k) s.toList) := hr
    clear hr
    by_cases hlt : k < S.length
    · have HS : Hid (Qm.has ((S.map ByteArray.toList).drop k) s.toList = ((s.toList == (S.map ByteArray.toList)[k]'(by simpa using hlt)) || Qm.has ((S.map ByteArray.toList).drop (k + 1)) s.toList)) := Qm.has_drop _ _ k (by simpa using hlt)
      have hck := hc k hlt
      clear hc
      cases hq : (S[k].toList == s.toList)
      · go_wp2_with fail
        go_round
        case rel => exact ⟨k + 1, by omega, by go_num, by rw [HR.out, HS.out, List.getElem_map, BEq.comm, hq]; simp⟩
        case measure => simp [intOf]; omega
      · go_wp2_with fail
        go_ret
        exact ⟨lret_bool (by rw [HR.out, HS.out, List.getElem_map, BEq.comm, hq]; simp), rfl⟩
    · have HE : Hid (Qm.has ((S.map ByteArray.toList).drop k) s.toList = false) := Qm.has_end _ _ k (by simpa using hlt)
      go_wp2_with fail
      go_ret
      exact ⟨lret_bool (by rw [HR.out, HE.out]), rfl⟩

set_option maxHeartbeats 400000 in
theorem l2Letters_any (s : ByteArray) (w : World) (hs : s.size ≤ maxLen) :
    Calls Try.prog 59 #[.string s] w fun e w' => e = .returned (.bool (Qm.letters 0 s.data.toList && (decide (1 ≤ s.size) && decide (s.size ≤ 12)))) ∧ w' = w := by
  unfold maxLen at hs
  go_enter Try.func59, Try.ntmps59
  go_wp2_with fail
  go_loop [3] (fun i => ∃ k : Nat, k ≤ s.size ∧ i = .int .i64 k ∧ Qm.letters 0 s.data.toList = Qm.letters k (s.data.toList.drop k)) (fun i => s.size - (intOf i).toNat)
  case atStart => exact ⟨0, Nat.zero_le _, rfl, by simp⟩
  case round =>
    obtain ⟨k, hk, rfl, hr⟩ := hrel
    have HR : Hid (Qm.letters 0 s.data.toList = Qm.letters k (s.data.toList.drop k)) := hr
    clear hr
    by_cases hlt : k < s.size
    · have HS : Hid (Qm.letters k (s.data.toList.drop k) = (Qm.okAt k s[k].toNat && Qm.letters (k + 1) (s.data.toList.drop (k + 1)))) := Qm.letters_step s k hlt
      cases h1 : Qm.low s[k].toNat
      · by_cases h0 : k = 0
        · subst h0
          go_wp2_with (first | (go_at_call 85; refine (l2Low_any _ _).mono ?_; rintro e w' ⟨rfl, rfl⟩) | (go_at_call 86; refine (l2Figure_any _ _).mono ?_; rintro e w' ⟨rfl, rfl⟩))
          go_ret
          exact ⟨lret_bool (by rw [HR.out, HS.out]; simp [Qm.okAt, h1]), rfl⟩
        · cases h2 : Qm.fig s[k].toNat
          · go_wp2_with (first | (go_at_call 85; refine (l2Low_any _ _).mono ?_; rintro e w' ⟨rfl, rfl⟩) | (go_at_call 86; refine (l2Figure_any _ _).mono ?_; rintro e w' ⟨rfl, rfl⟩))
            go_ret
            exact ⟨lret_bool (by rw [HR.out, HS.out]; simp [Qm.okAt, h1, h2]), rfl⟩
          · go_wp2_with (first | (go_at_call 85; refine (l2Low_any _ _).mono ?_; rintro e w' ⟨rfl, rfl⟩) | (go_at_call 86; refine (l2Figure_any _ _).mono ?_; rintro e w' ⟨rfl, rfl⟩))
            go_round
            case rel => exact ⟨k + 1, by omega, by go_num, by rw [HR.out, HS.out]; simp [Qm.okAt, h1, h2, h0]⟩
            case measure => simp [intOf]; omega
      · go_wp2_with (first | (go_at_call 85; refine (l2Low_any _ _).mono ?_; rintro e w' ⟨rfl, rfl⟩) | (go_at_call 86; refine (l2Figure_any _ _).mono ?_; rintro e w' ⟨rfl, rfl⟩))
        go_round
        case rel => exact ⟨k + 1, by omega, by go_num, by rw [HR.out, HS.out]; simp [Qm.okAt, h1]⟩
        case measure => simp [intOf]; omega
    · have HE : Hid (Qm.letters k (s.data.toList.drop k) = true) := by unfold Hid; rw [Qm.drop_end s k hlt]; rfl
      go_wp2_with (go_at_call 72; refine (l1In_l _ _ _ _).mono ?_; rintro e w' ⟨rfl, rfl⟩)
      go_ret
      exact ⟨lret_bool (by rw [HR.out, HE.out, Bool.eq_iff_iff]; simp; omega), rfl⟩

/-- the words, as byte arrays -/
def wordArrs : List ByteArray := [⟨#[110, 117, 108, 108]⟩, ⟨#[116, 114, 117, 101]⟩, ⟨#[102, 97, 108, 115, 101]⟩, ⟨#[105, 102]⟩, ⟨#[116, 104, 101, 110]⟩, ⟨#[101, 108, 115, 101]⟩, ⟨#[108, 111, 99, 97, 108]⟩, ⟨#[102, 117, 110, 99, 116, 105, 111, 110]⟩, ⟨#[115, 101, 108, 102]⟩, ⟨#[115, 117, 112, 101, 114]⟩, ⟨#[101, 114, 114, 111, 114]⟩, ⟨#[105, 109, 112, 111, 114, 116]⟩, ⟨#[102, 111, 114]⟩, ⟨#[105, 110]⟩, ⟨#[115, 116, 100]⟩]
theorem wordArrs_lists : wordArrs.map ByteArray.toList = Qm.words := by decide +kernel
theorem wordArrs_cells (w : World) : ∀ k (h : k < wordArrs.length), (w.alloc (.cells wordTexts 9)).cell? ⟨w.heap.size, k, none⟩ = some (.string wordArrs[k]) := by
  intro k h
  have h' : k < 15 := h
  simp only [wordTexts]
  have : k = 0 ∨ k = 1 ∨ k = 2 ∨ k = 3 ∨ k = 4 ∨ k = 5 ∨ k = 6 ∨ k = 7 ∨ k = 8 ∨ k = 9 ∨ k = 10 ∨ k = 11 ∨ k = 12 ∨ k = 13 ∨ k = 14 := by omega
  rcases this with rfl | rfl | rfl | rfl | rfl | rfl | rfl | rfl | rfl | rfl | rfl | rfl | rfl | rfl | rfl
  all_goals simp [wordArrs]

set_option maxHeartbeats 400000 in
theorem sNameOk_any (s : ByteArray) (w : World) (hs : s.size ≤ maxLen) :
    Calls Try.prog 36 #[.string s] w fun e w' => e = .returned (.bool (Qm.name s)) ∧ Below w.heap.size w w' := by
  cases h : (Qm.letters 0 s.data.toList && (decide (1 ≤ s.size) && decide (s.size ≤ 12)))
  · go_enter Try.func36, Try.ntmps36
    go_wp2_with (go_at_call 59; refine (l2Letters_any _ _ hs).mono ?_; rintro e w' ⟨rfl, rfl⟩)
    go_ret
    exact ⟨lret_bool (by unfold Qm.name; rw [h]; rfl), Below.refl _ _⟩
  · have HH := l2Has_any w.heap.size 15 wordArrs s (w.alloc (.cells wordTexts 9)) rfl (by omega) (wordArrs_cells w)
    rw [wordArrs_lists] at HH
    cases hw : Qm.has Qm.words s.toList
    all_goals
      rw [hw] at HH
      go_enter Try.func36, Try.ntmps36
      go_wp2_with (first | (go_at_call 59; refine (l2Letters_any _ _ hs).mono ?_; rintro e w' ⟨rfl, rfl⟩) | (go_at_call 60; refine (l2Words_any _).mono ?_; rintro e w' ⟨rfl, rfl⟩) | (go_at_call 37; refine HH.mono ?_; rintro e w' ⟨rfl, rfl⟩))
      go_ret
      exact ⟨lret_bool (by unfold Qm.name; rw [h, hw]; rfl), (Below.refl _ _).alloc (Nat.le_refl _) _⟩

set_option maxHeartbeats 400000 in
theorem iNameOk_any (s : ByteArray) (w : World) (hs : s.size ≤ maxLen) :
    Calls Try.prog 41 #[.string s] w fun e w' => e = .returned (.bool (Qm.name s)) ∧ w' = w := by
  by_cases h0 : 0 < s.size
  · have hne : (s.toList == []) = false := by rw [beq_eq_false_iff_ne]; intro h; rw [ByteArray.toList_eq] at h; have := Qm.len_eq s; rw [h] at this; simp at this; omega
    by_cases h12 : s.size ≤ 12
    · have HN := Qm.name_eq s h0
      have HN' : Hid (Qm.name s = (decide (s.size ≤ 12) && (Qm.low s[0].toNat && (decide (Qm.run Qm.part s.data.toList = s.size) && !Qm.has Qm.words s.toList)))) := HN
      clear HN
      have hR := Qm.run_le Qm.part s.data.toList
      simp at hR
      cases hl : Qm.low s[0].toNat
      · go_enter Try.func41, Try.ntmps41
        go_wp2_with (go_at_call 61; refine (isLetter_any _ _).mono ?_; rintro e w' ⟨rfl, rfl⟩)
        go_ret
        exact ⟨lret_bool (by rw [HN'.out, hl]; simp), rfl⟩
      · by_cases hr : Qm.run Qm.part s.data.toList = s.size
        · cases hw : Qm.has Qm.words s.toList
          all_goals
            go_enter Try.func41, Try.ntmps41
            go_wp2_with (first | (go_at_call 61; refine (isLetter_any _ _).mono ?_; rintro e w' ⟨rfl, rfl⟩) | (go_at_call 62; refine (runLength_part _ _ hs).mono ?_; rintro e w' ⟨rfl, rfl⟩) | (go_at_call 64; refine (isWord_any _ _).mono ?_; rintro e w' ⟨rfl, rfl⟩))
            go_ret
            exact ⟨lret_bool (by rw [HN'.out, hl, hr, hw]; simp [h12]), rfl⟩
        · have hr' : ((Qm.run Qm.part s.data.toList : Int) == s.size) = false := by simp; omega
          go_enter Try.func41, Try.ntmps41
          go_wp2_with (first | (go_at_call 61; refine (isLetter_any _ _).mono ?_; rintro e w' ⟨rfl, rfl⟩) | (go_at_call 62; refine (runLength_part _ _ hs).mono ?_; rintro e w' ⟨rfl, rfl⟩) | (go_at_call 64; refine (isWord_any _ _).mono ?_; rintro e w' ⟨rfl, rfl⟩))
          go_ret
          exact ⟨lret_bool (by rw [HN'.out, hl]; simp [hr]), rfl⟩
    · have HN : Hid (Qm.name s = false) := Qm.name_long s h12
      go_enter Try.func41, Try.ntmps41
      go_wp2_with fail
      go_ret
      exact ⟨lret_bool (by rw [HN.out]), rfl⟩
  · have HN : Hid (Qm.name s = false) := Qm.name_none s h0
    have hne : (s.toList == []) = true := by rw [beq_iff_eq]; apply List.eq_nil_of_length_eq_zero; rw [ByteArray.toList_eq, Qm.len_eq]; omega
    go_enter Try.func41, Try.ntmps41
    go_wp2_with fail
    go_ret
    exact ⟨lret_bool (by rw [HN.out]), rfl⟩
end Go.Proofs.Ytbbbmmemfndnlaa
/- Contracts of the leaves of chapter 1: within, l1In, l1Big, DecOk of both sides, toDec, eqDec. -/
namespace Go.Proofs.Ytbbbmmemfndnlaa
open Go.RowKit

theorem ret_bool {a b : Bool} (h : a = b) : Ending.returned (.bool a) = .returned (.bool b) := by rw [h]

set_option maxHeartbeats 400000 in
theorem l1In_any (n a b : Int) (w : World) :
    Calls Try.prog 72 #[.int .i64 n, .int .i64 a, .int .i64 b] w fun e w' => e = .returned (.bool (decide (a ≤ n) && decide (n ≤ b))) ∧ w' = w := by
  go_enter Try.func72, Try.ntmps72
  go_wp2
  all_goals
    go_ret
    exact ⟨ret_bool (by simp; try omega), rfl⟩

set_option maxHeartbeats 400000 in
theorem iDecOk_any (m x : Int) (w : World) :
    Calls Try.prog 100 #[.agg #[.int .i64 m, .int .i64 x]] w fun e w' => e = .returned (.bool (Dm.ok m x)) ∧ Below w.heap.size w w' := by
  go_enter Try.func100, Try.ntmps100
  go_wp2
  all_goals
    go_ret
    exact ⟨ret_bool (by simp_all [Dm.ok]; try omega), (Below.refl _ _).alloc (Nat.le_refl _) _⟩

set_option maxHeartbeats 400000 in
theorem sDecOk_any (m x : Int) (w : World) :
    Calls Try.prog 74 #[.agg #[.int .i64 m, .int .i64 x]] w fun e w' => e = .returned (.bool (Dm.ok m x)) ∧ Below w.heap.size w w' := by
  go_enter Try.func74, Try.ntmps74
  go_wp2
  all_goals
    go_ret
    exact ⟨ret_bool (by simp_all [Dm.ok]; try omega), (Below.refl _ _).alloc (Nat.le_refl _) _⟩

end Go.Proofs.Ytbbbmmemfndnlaa
/- Contracts for trees that are ok: the texts, the counts. -/
namespace Go.Proofs.Ytbbbmmemfndnlaa
open Go.RowKit

theorem has_mem {L : List (List UInt8)} {l : List UInt8} (h : Qm.has L l = true) : l ∈ L := by
  induction L with
  | nil => cases h
  | cons x t ih =>
    simp only [Qm.has, Bool.or_eq_true, beq_iff_eq] at h
    rcases h with h | h
    · subst h; simp
    · exact List.mem_cons_of_mem _ (ih h)

set_option maxHeartbeats 1000000 in
theorem stdKids_any (s : ByteArray) (w : World) :
    Calls Try.prog 99 #[.string s] w fun e w' => e = .returned (.int .i64 (Om.std s.toList)) ∧ w' = w := by
  generalize hl : s.toList = l
  cases h1 : Qm.has Om.std1 l
  · cases h2 : Qm.has Om.std2 l
    · cases h3 : Qm.has Om.std3 l
      · have H : Hid (Om.std l = 0) := by unfold Hid Om.std; simp [h1, h2, h3]
        rw [H.out]
        simp only [Om.std1, Om.std2, Om.std3, Qm.has, Bool.or_eq_false_iff] at h1 h2 h3
        obtain ⟨a1, a2, a3, a4, a5, a6, _⟩ := h1
        obtain ⟨b1, b2, b3, b4, _⟩ := h2
        obtain ⟨c1, _⟩ := h3
        go_enter Try.func99, Try.ntmps99
        go_wp2_with fail
        go_ret
        exact ⟨rfl, rfl⟩
      · have H : Hid (Om.std l = 3) := by unfold Hid Om.std; simp [h1, h2, h3]
        rw [H.out]
        have hm := has_mem h3
        clear h1 h2 h3 H
        simp only [Om.std3, List.mem_cons, List.not_mem_nil, or_false] at hm
        subst hm
        go_enter Try.func99, Try.ntmps99
        go_wp2_with fail
        go_ret
        exact ⟨rfl, rfl⟩
    · have H : Hid (Om.std l = 2) := by unfold Hid Om.std; simp [h1, h2]
      rw [H.out]
      have hm := has_mem h2
      clear h1 h2 H
      simp only [Om.std2, List.mem_cons, List.not_mem_nil, or_false] at hm
      rcases hm with h | h | h | h
      all_goals
        subst h
        go_enter Try.func99, Try.ntmps99
        go_wp2_with fail
        go_ret
        exact ⟨rfl, rfl⟩
  · have H : Hid (Om.std l = 1) := by unfold Hid Om.std; simp [h1]
    rw [H.out]
    have hm := has_mem h1
    clear h1 H
    simp only [Om.std1, List.mem_cons, List.not_mem_nil, or_false] at hm
    rcases hm with h | h | h | h | h | h
    all_goals
      subst h
      go_enter Try.func99, Try.ntmps99
      go_wp2_with fail
      go_ret
      exact ⟨rfl, rfl⟩
/-- how many a function is given, or -1 -/
def stdOr (l : List UInt8) : Int := if Om.std l = 0 then -1 else (Om.std l : Int)
set_option maxHeartbeats 1000000 in
theorem l3Std_any (s : ByteArray) (w : World) :
    Calls Try.prog 97 #[.string s] w fun e w' => e = .returned (.int .i64 (stdOr s.toList)) ∧ w' = w := by
  generalize hl : s.toList = l
  cases h1 : Qm.has Om.std1 l
  · cases h2 : Qm.has Om.std2 l
    · cases h3 : Qm.has Om.std3 l
      · have H : Hid (stdOr l = -1) := by unfold Hid stdOr Om.std; simp [h1, h2, h3]
        rw [H.out]
        simp only [Om.std1, Om.std2, Om.std3, Qm.has, Bool.or_eq_false_iff] at h1 h2 h3
        obtain ⟨a1, a2, a3, a4, a5, a6, _⟩ := h1
        obtain ⟨b1, b2, b3, b4, _⟩ := h2
        obtain ⟨c1, _⟩ := h3
        go_enter Try.func97, Try.ntmps97
        go_wp2_with fail
        go_ret
        exact ⟨rfl, rfl⟩
      · have H : Hid (stdOr l = 3) := by unfold Hid stdOr Om.std; simp [h1, h2, h3]
        rw [H.out]
        have hm := has_mem h3
        clear h1 h2 h3 H
        simp only [Om.std3, List.mem_cons, List.not_mem_nil, or_false] at hm
        subst hm
        go_enter Try.func97, Try.ntmps97
        go_wp2_with fail
        go_ret
        exact ⟨rfl, rfl⟩
    · have H : Hid (stdOr l = 2) := by unfold Hid stdOr Om.std; simp [h1, h2]
      rw [H.out]
      have hm := has_mem h2
      clear h1 h2 H
      simp only [Om.std2, List.mem_cons, List.not_mem_nil, or_false] at hm
      rcases hm with h | h | h | h
      all_goals
        subst h
        go_enter Try.func97, Try.ntmps97
        go_wp2_with fail
        go_ret
        exact ⟨rfl, rfl⟩
  · have H : Hid (stdOr l = 1) := by unfold Hid stdOr Om.std; simp [h1]
    rw [H.out]
    have hm := has_mem h1
    clear h1 H
    simp only [Om.std1, List.mem_cons, List.not_mem_nil, or_false] at hm
    rcases hm with h | h | h | h | h | h
    all_goals
      subst h
      go_enter Try.func97, Try.ntmps97
      go_wp2_with fail
      go_ret
      exact ⟨rfl, rfl⟩

set_option maxHeartbeats 400000 in
theorem isStd_any (s : ByteArray) (w : World) :
    Calls Try.prog 81 #[.string s] w fun e w' => e = .returned (.bool (decide (0 < Om.std s.toList))) ∧ w' = w := by
  have hle := Om.std_le s.toList
  go_enter Try.func81, Try.ntmps81
  go_wp2_with (go_at_call 99; refine (stdKids_any _ _).mono ?_; rintro e w' ⟨rfl, rfl⟩)
  go_ret
  exact ⟨lret_bool (by first | rfl | (rw [Bool.eq_iff_iff]; simp)), rfl⟩
set_option maxHeartbeats 400000 in
theorem noText_any (s : ByteArray) (w : World) :
    Calls Try.prog 78 #[.string s] w fun e w' => e = .returned (.bool (s.toList == [])) ∧ w' = w := by
  go_enter Try.func78, Try.ntmps78
  go_wp2_with fail
  go_ret
  exact ⟨lret_bool (by first | rfl | (rw [Bool.eq_iff_iff]; simp)), rfl⟩
set_option maxHeartbeats 400000 in
theorem shortText_any (s : ByteArray) (w : World) (hs : s.size ≤ maxLen) :
    Calls Try.prog 79 #[.string s] w fun e w' => e = .returned (.bool (decide (s.size ≤ 1500))) ∧ w' = w := by
  unfold maxLen at hs
  go_enter Try.func79, Try.ntmps79
  go_wp2_with fail
  go_ret
  exact ⟨lret_bool (by rw [Bool.eq_iff_iff]; first | (simp; done) | (simp; omega)), rfl⟩

set_option maxHeartbeats 1000000 in
/-- how many of the first n of a list are of a kind -/
theorem countKind_any (F : Fo) (q : Int) (a : Option Addr) (n c : Nat) (w : World) (hin : F.In w a) (hn : n ≤ F.len) (hc : n ≤ c) (hm : c ≤ maxLen) :
    Calls Try.prog 101 #[.slice a n c, .int .i64 q] w fun e w' => e = .returned (.int .i64 (F.cnt q n)) ∧ Below w.heap.size w w' := by
  unfold maxLen at hm
  go_enter Try.func101, Try.ntmps101
  go_wp2_with fail
  go_loopw [5, 10] (fun s i wr => ∃ j : Nat, i = .int .i64 j ∧ s = .int .i64 (F.cnt q j) ∧ j ≤ n ∧ Below w.heap.size w wr) (fun _ i _ => n - (intOf i).toNat)
  case atStart => exact ⟨0, rfl, rfl, Nat.zero_le _, Below.refl _ _⟩
  case round =>
    obtain ⟨j, rfl, rfl, hj, hb⟩ := hrel
    have hcl := F.cnt_le q j
    by_cases hlt : j < n
    · have hlt' : (j : Int) < (n : Int) := by omega
      obtain ⟨b, o, rfl, hF⟩ : ∃ b o, a = some ⟨b, o, none⟩ ∧ F.From w b o := by
        rcases hin with rfl | h
        · exact absurd hn (by show ¬ n ≤ 0; omega)
        · exact h
      clear hin
      have hFr := Fo.from_at (Fo.from_grow hb F b o hF) (show j < F.len by omega)
      obtain ⟨⟨h1, h2, h3, h4, h5⟩, _, _, _, _⟩ := hFr
      by_cases hk : F.kindAt j = q
      · have HS : Hid (F.cnt q (j + 1) = F.cnt q j + 1) := by unfold Hid; show F.cnt q j + (if F.kindAt j = q then 1 else 0) = _; rw [if_pos hk]
        have hk' : (F.kindAt j == q) = true := by simp [hk]
        generalize F.cnt q j = cj at *
        generalize F.kindAt j = kj at *
        go_wp2_with fail
        go_round
        case rel => exact ⟨j + 1, by go_num, by rw [HS.out]; go_num, by omega, hb.alloc hb.size _⟩
        case measure => simp [intOf]; omega
      · have HS : Hid (F.cnt q (j + 1) = F.cnt q j) := by unfold Hid; show F.cnt q j + (if F.kindAt j = q then 1 else 0) = _; rw [if_neg hk]; rfl
        have hk' : (F.kindAt j == q) = false := by simp [hk]
        generalize F.cnt q j = cj at *
        generalize F.kindAt j = kj at *
        go_wp2_with fail
        go_round
        case rel => exact ⟨j + 1, by go_num, by rw [HS.out], by omega, hb.alloc hb.size _⟩
        case measure => simp [intOf]; omega
    · have e : j = n := by omega
      subst e
      have HE : ∃ cj, cj = F.cnt q j := ⟨_, rfl⟩
      obtain ⟨cj, hcj⟩ := HE
      rw [← hcj] at hcl ⊢
      have HC : Hid (F.cnt q j = cj) := hcj.symm
      clear hcj
      go_wp2_with fail
      go_ret
      exact ⟨by rw [HC.out]; rfl, hb⟩
end Go.Proofs.Ytbbbmmemfndnlaa
/- Contracts for trees that are ok, of the specification: how many below, the texts, a field. -/
namespace Go.Proofs.Ytbbbmmemfndnlaa
open Go.RowKit
abbrev twoInts (a b : Int) : Ending := .returned (.tuple #[.int .i64 a, .int .i64 b])
set_option maxHeartbeats 1000000 in
theorem l3Count_any (k : Int) (w : World) :
    Calls Try.prog 71 #[.int .i64 k] w fun e w' => e = twoInts (Om.low k) (Om.high k) ∧ w' = w := by
  by_cases h10 : k = 10
  · subst h10
    go_enter Try.func71, Try.ntmps71
    go_wp2_with fail
    go_ret2
    exact ⟨rfl, rfl⟩
  by_cases h11 : k = 11
  · subst h11
    go_enter Try.func71, Try.ntmps71
    go_wp2_with fail
    go_ret2
    exact ⟨rfl, rfl⟩
  by_cases h12 : k = 12
  · subst h12
    go_enter Try.func71, Try.ntmps71
    go_wp2_with fail
    go_ret2
    exact ⟨rfl, rfl⟩
  by_cases h18 : k = 18
  · subst h18
    go_enter Try.func71, Try.ntmps71
    go_wp2_with fail
    go_ret2
    exact ⟨rfl, rfl⟩
  by_cases h13 : k = 13
  · subst h13
    go_enter Try.func71, Try.ntmps71
    go_wp2_with fail
    go_ret2
    exact ⟨rfl, rfl⟩
  by_cases h15 : k = 15
  · subst h15
    go_enter Try.func71, Try.ntmps71
    go_wp2_with fail
    go_ret2
    exact ⟨rfl, rfl⟩
  by_cases h19 : k = 19
  · subst h19
    go_enter Try.func71, Try.ntmps71
    go_wp2_with fail
    go_ret2
    exact ⟨rfl, rfl⟩
  by_cases h21 : k = 21
  · subst h21
    go_enter Try.func71, Try.ntmps71
    go_wp2_with fail
    go_ret2
    exact ⟨rfl, rfl⟩
  by_cases h14 : k = 14
  · subst h14
    go_enter Try.func71, Try.ntmps71
    go_wp2_with fail
    go_ret2
    exact ⟨rfl, rfl⟩
  by_cases h16 : k = 16
  · subst h16
    go_enter Try.func71, Try.ntmps71
    go_wp2_with fail
    go_ret2
    exact ⟨rfl, rfl⟩
  by_cases h17 : k = 17
  · subst h17
    go_enter Try.func71, Try.ntmps71
    go_wp2_with fail
    go_ret2
    exact ⟨rfl, rfl⟩
  by_cases h20 : k = 20
  · subst h20
    go_enter Try.func71, Try.ntmps71
    go_wp2_with fail
    go_ret2
    exact ⟨rfl, rfl⟩
  by_cases h22 : k = 22
  · subst h22
    go_enter Try.func71, Try.ntmps71
    go_wp2_with fail
    go_ret2
    exact ⟨rfl, rfl⟩
  by_cases h24 : k = 24
  · subst h24
    go_enter Try.func71, Try.ntmps71
    go_wp2_with fail
    go_ret2
    exact ⟨rfl, rfl⟩
  have HL : Hid (Om.low k = 0) := by unfold Hid Om.low; simp [h10, h11, h12, h18, h13, h15, h19, h21, h14, h16, h17]
  have HH : Hid (Om.high k = 0) := by unfold Hid Om.high; simp [h10, h11, h12, h18, h13, h15, h19, h21, h14, h16, h17, h20, h22, h24]
  rw [HL.out, HH.out]
  have g10 : (k == 10) = false := by simp [h10]
  have g11 : (k == 11) = false := by simp [h11]
  have g12 : (k == 12) = false := by simp [h12]
  have g18 : (k == 18) = false := by simp [h18]
  have g13 : (k == 13) = false := by simp [h13]
  have g15 : (k == 15) = false := by simp [h15]
  have g19 : (k == 19) = false := by simp [h19]
  have g21 : (k == 21) = false := by simp [h21]
  have g14 : (k == 14) = false := by simp [h14]
  have g16 : (k == 16) = false := by simp [h16]
  have g17 : (k == 17) = false := by simp [h17]
  have g20 : (k == 20) = false := by simp [h20]
  have g22 : (k == 22) = false := by simp [h22]
  have g24 : (k == 24) = false := by simp [h24]
  go_enter Try.func71, Try.ntmps71
  go_wp2_with fail
  go_ret2
  exact ⟨rfl, rfl⟩
/-- the signs lie there, row by row -/
def SgIn (b : Nat) (w : World) : Prop := w.cell? ⟨b + 6, 0, none⟩ = some (.slice (some ⟨b + 0, 0, none⟩) 1 1) ∧ w.cell? ⟨b + 6, 1, none⟩ = some (.slice (some ⟨b + 1, 0, none⟩) 1 1) ∧ w.cell? ⟨b + 6, 2, none⟩ = some (.slice (some ⟨b + 2, 0, none⟩) 2 2) ∧ w.cell? ⟨b + 6, 3, none⟩ = some (.slice (some ⟨b + 3, 0, none⟩) 4 4) ∧ w.cell? ⟨b + 6, 4, none⟩ = some (.slice (some ⟨b + 4, 0, none⟩) 2 2) ∧ w.cell? ⟨b + 6, 5, none⟩ = some (.slice (some ⟨b + 5, 0, none⟩) 3 3) ∧ w.cell? ⟨b + 0, 0, none⟩ = some (.string ⟨#[124, 124]⟩) ∧ w.cell? ⟨b + 1, 0, none⟩ = some (.string ⟨#[38, 38]⟩) ∧ w.cell? ⟨b + 2, 0, none⟩ = some (.string ⟨#[61, 61]⟩) ∧ w.cell? ⟨b + 2, 1, none⟩ = some (.string ⟨#[33, 61]⟩) ∧ w.cell? ⟨b + 3, 0, none⟩ = some (.string ⟨#[60]⟩) ∧ w.cell? ⟨b + 3, 1, none⟩ = some (.string ⟨#[60, 61]⟩) ∧ w.cell? ⟨b + 3, 2, none⟩ = some (.string ⟨#[62]⟩) ∧ w.cell? ⟨b + 3, 3, none⟩ = some (.string ⟨#[62, 61]⟩) ∧ w.cell? ⟨b + 4, 0, none⟩ = some (.string ⟨#[43]⟩) ∧ w.cell? ⟨b + 4, 1, none⟩ = some (.string ⟨#[45]⟩) ∧ w.cell? ⟨b + 5, 0, none⟩ = some (.string ⟨#[42]⟩) ∧ w.cell? ⟨b + 5, 1, none⟩ = some (.string ⟨#[47]⟩) ∧ w.cell? ⟨b + 5, 2, none⟩ = some (.string ⟨#[37]⟩)
theorem heapAt (w : World) (o : Obj) (i : Nat) : (w.alloc o).heap[i]? = if i = w.heap.size then some o else w.heap[i]? := by
  show (w.heap.push o)[i]? = _
  rw [Array.getElem?_push]
theorem cellAt {w : World} {b : Nat} {cs : Array Value} {t : TypeId} (h : w.heap[b]? = some (.cells cs t (0, 0))) (j : Nat) : w.cell? ⟨b, j, none⟩ = cs[j]? := by
  simp [World.cell?, h]
set_option maxHeartbeats 1000000 in
theorem l3Signs_any (w : World) :
    Calls Try.prog 105 #[] w fun e w' => e = .returned (.slice (some ⟨w.heap.size + 6, 0, none⟩) 6 6) ∧ SgIn w.heap.size w' ∧ Below w.heap.size w w' := by
  go_enter Try.func105, Try.ntmps105
  go_wp2_with fail
  go_ret
  refine ⟨rfl, ?_, ?_⟩
  · unfold SgIn
    generalize hW : World.alloc _ _ = W
    have k6 := cellAt (b := w.heap.size + 6) (cs := #[.slice (some ⟨w.heap.size + 0, 0, none⟩) 1 1, .slice (some ⟨w.heap.size + 1, 0, none⟩) 1 1, .slice (some ⟨w.heap.size + 2, 0, none⟩) 2 2, .slice (some ⟨w.heap.size + 3, 0, none⟩) 4 4, .slice (some ⟨w.heap.size + 4, 0, none⟩) 2 2, .slice (some ⟨w.heap.size + 5, 0, none⟩) 3 3]) (t := 28) (w := W) (by subst hW; rw [heapAt, if_pos (by simp only [World.size_alloc])]; rfl)
    have k0 := cellAt (b := w.heap.size + 0) (cs := #[.string ⟨#[124, 124]⟩]) (t := 9) (w := W) (by subst hW; rw [heapAt, if_neg (by simp only [World.size_alloc]; omega)]; rw [heapAt, if_neg (by simp only [World.size_alloc]; omega)]; rw [heapAt, if_neg (by simp only [World.size_alloc]; omega)]; rw [heapAt, if_neg (by simp only [World.size_alloc]; omega)]; rw [heapAt, if_neg (by simp only [World.size_alloc]; omega)]; rw [heapAt, if_neg (by simp only [World.size_alloc]; omega)]; rw [heapAt, if_pos (Nat.add_zero _)])
    have k1 := cellAt (b := w.heap.size + 1) (cs := #[.string ⟨#[38, 38]⟩]) (t := 9) (w := W) (by subst hW; rw [heapAt, if_neg (by simp only [World.size_alloc]; omega)]; rw [heapAt, if_neg (by simp only [World.size_alloc]; omega)]; rw [heapAt, if_neg (by simp only [World.size_alloc]; omega)]; rw [heapAt, if_neg (by simp only [World.size_alloc]; omega)]; rw [heapAt, if_neg (by simp only [World.size_alloc]; omega)]; rw [heapAt, if_pos (by simp only [World.size_alloc])])
    have k2 := cellAt (b := w.heap.size + 2) (cs := #[.string ⟨#[61, 61]⟩, .string ⟨#[33, 61]⟩]) (t := 9) (w := W) (by subst hW; rw [heapAt, if_neg (by simp only [World.size_alloc]; omega)]; rw [heapAt, if_neg (by simp only [World.size_alloc]; omega)]; rw [heapAt, if_neg (by simp only [World.size_alloc]; omega)]; rw [heapAt, if_neg (by simp only [World.size_alloc]; omega)]; rw [heapAt, if_pos (by simp only [World.size_alloc])])
    have k3 := cellAt (b := w.heap.size + 3) (cs := #[.string ⟨#[60]⟩, .string ⟨#[60, 61]⟩, .string ⟨#[62]⟩, .string ⟨#[62, 61]⟩]) (t := 9) (w := W) (by subst hW; rw [heapAt, if_neg (by simp only [World.size_alloc]; omega)]; rw [heapAt, if_neg (by simp only [World.size_alloc]; omega)]; rw [heapAt, if_neg (by simp only [World.size_alloc]; omega)]; rw [heapAt, if_pos (by simp only [World.size_alloc])])
    have k4 := cellAt (b := w.heap.size + 4) (cs := #[.string ⟨#[43]⟩, .string ⟨#[45]⟩]) (t := 9) (w := W) (by subst hW; rw [heapAt, if_neg (by simp only [World.size_alloc]; omega)]; rw [heapAt, if_neg (by simp only [World.size_alloc]; omega)]; rw [heapAt, if_pos (by simp only [World.size_alloc])])
    have k5 := cellAt (b := w.heap.size + 5) (cs := #[.string ⟨#[42]⟩, .string ⟨#[47]⟩, .string ⟨#[37]⟩]) (t := 9) (w := W) (by subst hW; rw [heapAt, if_neg (by simp only [World.size_alloc]; omega)]; rw [heapAt, if_pos (by simp only [World.size_alloc])])
    exact ⟨k6 0, k6 1, k6 2, k6 3, k6 4, k6 5, k0 0, k1 0, k2 0, k2 1, k3 0, k3 1, k3 2, k3 3, k4 0, k4 1, k5 0, k5 1, k5 2⟩
  · exact ((((((((Below.refl _ w)).alloc (Nat.le_refl _) _).alloc (by simp <;> omega) _).alloc (by simp <;> omega) _).alloc (by simp <;> omega) _).alloc (by simp <;> omega) _).alloc (by simp <;> omega) _).alloc (by simp <;> omega) _
/-- the rows of signs -/
def sgRow : Nat → List ByteArray
  | 0 => [⟨#[124, 124]⟩]
  | 1 => [⟨#[38, 38]⟩]
  | 2 => [⟨#[61, 61]⟩, ⟨#[33, 61]⟩]
  | 3 => [⟨#[60]⟩, ⟨#[60, 61]⟩, ⟨#[62]⟩, ⟨#[62, 61]⟩]
  | 4 => [⟨#[43]⟩, ⟨#[45]⟩]
  | 5 => [⟨#[42]⟩, ⟨#[47]⟩, ⟨#[37]⟩]
  | _ => []
def sgHas (i : Nat) (l : List UInt8) : Bool := Qm.has ((sgRow i).map ByteArray.toList) l
theorem SgIn.row {b : Nat} {w : World} (h : SgIn b w) (i : Nat) (hi : i < 6) : w.cell? ⟨b + 6, i, none⟩ = some (.slice (some ⟨b + i, 0, none⟩) (sgRow i).length (sgRow i).length) ∧ ∀ k (hk : k < (sgRow i).length), w.cell? ⟨b + i, k, none⟩ = some (.string (sgRow i)[k]) := by
  unfold SgIn at h
  obtain ⟨r0, r1, r2, r3, r4, r5, s00, s10, s20, s21, s30, s31, s32, s33, s40, s41, s50, s51, s52⟩ := h
  have : i = 0 ∨ i = 1 ∨ i = 2 ∨ i = 3 ∨ i = 4 ∨ i = 5 := by omega
  rcases this with rfl | rfl | rfl | rfl | rfl | rfl
  · exact ⟨r0, fun k hk => by have : k = 0 := by have : k < 1 := hk; omega
                              subst this; exact s00⟩
  · exact ⟨r1, fun k hk => by have : k = 0 := by have : k < 1 := hk; omega
                              subst this; exact s10⟩
  · exact ⟨r2, fun k hk => by have : k = 0 ∨ k = 1 := by have : k < 2 := hk; omega
                              rcases this with rfl | rfl
                              · exact s20
                              · exact s21⟩
  · exact ⟨r3, fun k hk => by have : k = 0 ∨ k = 1 ∨ k = 2 ∨ k = 3 := by have : k < 4 := hk; omega
                              rcases this with rfl | rfl | rfl | rfl
                              · exact s30
                              · exact s31
                              · exact s32
                              · exact s33⟩
  · exact ⟨r4, fun k hk => by have : k = 0 ∨ k = 1 := by have : k < 2 := hk; omega
                              rcases this with rfl | rfl
                              · exact s40
                              · exact s41⟩
  · exact ⟨r5, fun k hk => by have : k = 0 ∨ k = 1 ∨ k = 2 := by have : k < 3 := hk; omega
                              rcases this with rfl | rfl | rfl
                              · exact s50
                              · exact s51
                              · exact s52⟩
theorem signs_rows (l : List UInt8) : Qm.has Om.signs l = (sgHas 0 l || (sgHas 1 l || (sgHas 2 l || (sgHas 3 l || (sgHas 4 l || sgHas 5 l))))) := by
  have e : ∀ i, sgHas i l = Qm.has ((sgRow i).map ByteArray.toList) l := fun _ => rfl
  rw [e, e, e, e, e, e]
  rw [show (sgRow 0).map ByteArray.toList = [[124, 124]] by decide +kernel, show (sgRow 1).map ByteArray.toList = [[38, 38]] by decide +kernel, show (sgRow 2).map ByteArray.toList = [[61, 61], [33, 61]] by decide +kernel,
    show (sgRow 3).map ByteArray.toList = [[60], [60, 61], [62], [62, 61]] by decide +kernel, show (sgRow 4).map ByteArray.toList = [[43], [45]] by decide +kernel, show (sgRow 5).map ByteArray.toList = [[42], [47], [37]] by decide +kernel]
  simp only [Om.signs, Qm.has, Bool.or_false, Bool.or_assoc]
/-- no row up to this one has it -/
def sgNone (l : List UInt8) : Nat → Bool
  | 0 => true
  | i + 1 => sgNone l i && !sgHas i l
theorem sgNone_has {l : List UInt8} (h : sgNone l 6 = true) : Qm.has Om.signs l = false := by
  rw [signs_rows]
  simp [sgNone] at h
  simp [h]
theorem sgHas_has {l : List UInt8} {i : Nat} (hi : i < 6) (h : sgHas i l = true) : Qm.has Om.signs l = true := by
  rw [signs_rows]
  have : i = 0 ∨ i = 1 ∨ i = 2 ∨ i = 3 ∨ i = 4 ∨ i = 5 := by omega
  rcases this with rfl | rfl | rfl | rfl | rfl | rfl <;> simp [h]
theorem sgRow_len (i : Nat) : (sgRow i).length ≤ 4 := by
  match i with
  | 0 | 1 | 2 | 3 | 4 | 5 => decide
  | n + 6 => exact Nat.zero_le _
set_option maxHeartbeats 1000000 in
theorem l3Level_any (t : ByteArray) (w : World) :
    Calls Try.prog 96 #[.string t] w fun e w' => (∃ z : Int, e = .returned (.int .i64 z) ∧ decide (0 ≤ z) = Qm.has Om.signs t.toList) ∧ Below w.heap.size w w' := by
  go_enter Try.func96, Try.ntmps96
  go_wp2_with fail
  refine (l3Signs_any w).mono ?_
  rintro r W ⟨rfl, hS, hB⟩
  go_wp2_with fail
  go_loop [4] (fun i => ∃ k : Nat, k ≤ 6 ∧ i = .int .i64 k ∧ sgNone t.toList k = true) (fun i => 6 - (intOf i).toNat)
  case atStart => exact ⟨0, Nat.zero_le _, rfl, rfl⟩
  case round =>
    obtain ⟨k, hk, rfl, hn⟩ := hrel
    have HN : Hid (sgNone t.toList k = true) := hn
    clear hn
    by_cases hlt : k < 6
    · have hlt' : (k : Int) < 6 := by omega
      obtain ⟨hr, hcs⟩ := hS.row k hlt
      have hlen := sgRow_len k
      have HH := l2Has_any (w.heap.size + k) (sgRow k).length (sgRow k) t W rfl (by omega) hcs
      have HE : Hid (Qm.has ((sgRow k).map ByteArray.toList) t.toList = sgHas k t.toList) := rfl
      rw [HE.out] at HH
      clear hcs
      generalize (sgRow k).length = n at *
      cases hh : sgHas k t.toList
      · rw [hh] at HH
        have HS : Hid (sgNone t.toList (k + 1) = true) := by unfold Hid; show (sgNone t.toList k && !sgHas k t.toList) = true; rw [HN.out, hh]; rfl
        go_wp2_with fail
        refine HH.mono ?_
        rintro r w' ⟨rfl, hw⟩
        subst w'
        go_wp2_with fail
        go_round
        case rel => exact ⟨k + 1, by omega, by go_num, HS.out⟩
        case measure => simp [intOf]; omega
      · rw [hh] at HH
        have HS : Hid (Qm.has Om.signs t.toList = true) := sgHas_has hlt hh
        go_wp2_with fail
        refine HH.mono ?_
        rintro r w' ⟨rfl, hw⟩
        subst w'
        go_wp2_with fail
        go_ret
        exact ⟨⟨k, rfl, by rw [HS.out]; simp⟩, hB⟩
    · have e : k = 6 := by omega
      subst e
      have HS : Hid (Qm.has Om.signs t.toList = false) := sgNone_has HN.out
      go_wp2_with fail
      go_ret
      exact ⟨⟨-1, rfl, by rw [HS.out]; rfl⟩, hB⟩
end Go.Proofs.Ytbbbmmemfndnlaa
/- Contracts for trees that are ok: no two texts alike; the number. -/
namespace Go.Proofs.Ytbbbmmemfndnlaa
open Go.RowKit

set_option maxHeartbeats 2000000 in
/-- whether of the first n of a list no two have one text -/
theorem distinct_any (F : Fo) (a : Option Addr) (n c : Nat) (w : World) (hin : F.In w a) (hn : n ≤ F.len) (hc : n ≤ c) (hm : c ≤ maxLen) :
    Calls Try.prog 102 #[.slice a n c] w fun e w' => e = .returned (.bool (F.dist n)) ∧ Below w.heap.size w w' := by
  unfold maxLen at hm
  go_enter Try.func102, Try.ntmps102
  go_wp2_with fail
  go_loopw [7] (fun i wr => ∃ j : Nat, i = .int .i64 j ∧ F.dist j = true ∧ j ≤ n ∧ Below w.heap.size w wr) (fun i _ => n - (intOf i).toNat)
  case atStart => exact ⟨0, rfl, rfl, Nat.zero_le _, Below.refl _ _⟩
  case round =>
    obtain ⟨j, rfl, hd, hj, hb⟩ := hrel
    have HD : Hid (F.dist j = true) := hd
    clear hd
    by_cases hlt : j < n
    · have hlt' : (j : Int) < (n : Int) := by omega
      obtain ⟨b, o, rfl, hF⟩ : ∃ b o, a = some ⟨b, o, none⟩ ∧ F.From w b o := by
        rcases hin with rfl | h
        · exact absurd hn (by show ¬ n ≤ 0; omega)
        · exact h
      clear hin
      go_wp2_with fail
      go_loopw [11] (fun i wr => ∃ q : Nat, i = .int .i64 q ∧ F.newAt j q = true ∧ q ≤ j ∧ Below w.heap.size w wr) (fun i _ => j - (intOf i).toNat)
      case atStart => exact ⟨0, rfl, rfl, Nat.zero_le _, hb⟩
      case round =>
        obtain ⟨q, rfl, hq, hqj, hb2⟩ := hrel
        have HQ : Hid (F.newAt j q = true) := hq
        clear hq
        by_cases hq2 : q < j
        · have hq2' : (q : Int) < (j : Int) := by omega
          have hqn : q < n := by omega
          have hqn' : (q : Int) < (n : Int) := by omega
          have hFr := Fo.from_grow hb2 F b o hF
          obtain ⟨⟨_, h2, _⟩, _⟩ := Fo.from_at hFr (show j < F.len by omega)
          obtain ⟨⟨_, g2, _⟩, _⟩ := Fo.from_at hFr (show q < F.len by omega)
          cases ht : ((F.textAt j).toList == (F.textAt q).toList)
          · have HS : Hid (F.newAt j (q + 1) = true) := by unfold Hid; show (F.newAt j q && !((F.textAt j).toList == (F.textAt q).toList)) = true; rw [HQ.out, ht]; rfl
            generalize F.textAt j = tj at *
            generalize F.textAt q = tq at *
            clear hFr HQ
            go_wp2_with fail
            go_region
            all_goals
              go_wp2_with fail
              go_round
              case rel => exact ⟨q + 1, by go_num, HS.out, by omega, hb2.drew⟩
              case measure => simp [intOf]; omega
          · have HS : Hid (F.dist n = false) := Fo.dist_false (Fo.newAt_false ht hq2) hlt
            generalize F.textAt j = tj at *
            generalize F.textAt q = tq at *
            clear hFr HQ
            go_wp2_with fail
            go_region
            all_goals
              go_wp2_with fail
              go_ret
              exact ⟨by rw [HS.out]; rfl, hb2.drew⟩
        · have e : q = j := by omega
          subst e
          have HS : Hid (F.dist (q + 1) = true) := by unfold Hid; show (F.dist q && F.newAt q q) = true; rw [HD.out, HQ.out]; rfl
          clear HQ HD
          go_wp2_with fail
          go_round
          case rel => exact ⟨q + 1, by go_num, HS.out, by omega, hb2⟩
          case measure => simp [intOf]; omega
    · have e : j = n := by omega
      subst e
      go_wp2_with fail
      go_ret
      exact ⟨by rw [HD.out]; rfl, hb⟩

set_option maxHeartbeats 2000000 in
theorem numFits_any (k : Int) (t : ByteArray) (m e : Int) (a : Option Addr) (n c : Nat) (w : World) :
    Calls Try.prog 82 #[nodeV k t m e a n c] w fun r w' => r = .returned (.bool (Om.num k m e)) ∧ Below w.heap.size w w' := by
  by_cases h4 : k = 4
  · subst h4
    have HN : Hid (Om.num 4 m e = (Dm.ok m e && decide (0 ≤ m))) := by unfold Hid Om.num; rw [if_pos rfl]
    rw [HN.out]
    clear HN
    cases hd : Dm.ok m e
    all_goals
      go_enter Try.func82, Try.ntmps82
      go_wp2_with fail
      refine (iDecOk_any m e _).mono ?_
      rintro r w1 ⟨rfl, hb1⟩
      rw [hd]
      have hB : Below w.heap.size w w1 := ((Below.refl _ w).alloc (Nat.le_refl _) _).trans (hb1.mono (by simp))
      have h2 : w1.cell? ⟨w.heap.size, 2, none⟩ = some (.int .i64 m) := (hb1.cell (p := ⟨w.heap.size, 2, none⟩) (by simp)).trans (by simp)
      clear hb1
      go_wp2_with fail
      go_ret
      exact ⟨lret_bool (by first | rfl | simp), hB⟩
  · have hk4 : (k == 4) = false := by simp [h4]
    by_cases h23 : k = 23
    · subst h23
      have HN : Hid (Om.num 23 m e = (decide (e = 0) && (decide (0 ≤ m) && decide (m ≤ 2)))) := by unfold Hid Om.num; rw [if_neg (by decide), if_pos rfl]
      rw [HN.out]
      clear HN
      by_cases g1 : e = 0
      · have g1' : (e == 0) = true := by simp [g1]
        by_cases g2 : 0 ≤ m
        · have g2' : decide (0 ≤ m) = true := by simp [g2]
          go_enter Try.func82, Try.ntmps82
          go_wp2_with fail
          go_ret
          exact ⟨lret_bool (by simp [g1, g2]), (Below.refl _ w).alloc (Nat.le_refl _) _⟩
        · have g2' : decide (0 ≤ m) = false := by simp [g2]
          go_enter Try.func82, Try.ntmps82
          go_wp2_with fail
          go_ret
          exact ⟨lret_bool (by first | rfl | simp), (Below.refl _ w).alloc (Nat.le_refl _) _⟩
      · have g1' : (e == 0) = false := by simp [g1]
        go_enter Try.func82, Try.ntmps82
        go_wp2_with fail
        go_ret
        exact ⟨lret_bool (by simp [g1]), (Below.refl _ w).alloc (Nat.le_refl _) _⟩
    · have hk23 : (k == 23) = false := by simp [h23]
      have HN : Hid (Om.num k m e = (decide (m = 0) && decide (e = 0))) := by unfold Hid Om.num; rw [if_neg h4, if_neg h23]
      rw [HN.out]
      clear HN
      go_enter Try.func82, Try.ntmps82
      go_wp2_with fail
      all_goals
        go_ret
        exact ⟨lret_bool (by simp_all), (Below.refl _ w).alloc (Nat.le_refl _) _⟩
end Go.Proofs.Ytbbbmmemfndnlaa
/- Contracts for trees that are ok: what is right below an object. -/
namespace Go.Proofs.Ytbbbmmemfndnlaa
open Go.RowKit

abbrev KH (W0 : World) (b : Nat) (v : Value) (w : World) : Prop := w.cell? ⟨b, 4, none⟩ = some v ∧ Below W0.heap.size W0 w
theorem KH.grow {W0 : World} {b : Nat} {v : Value} {w w' : World} (h : KH W0 b v w) (hb : Below w.heap.size w w') : KH W0 b v w' :=
  ⟨(hb.cell (p := ⟨b, 4, none⟩) (World.block_lt_of_cell? w _ h.1)).trans h.1, h.2.trans (hb.mono h.2.size)⟩
theorem KH.drew {W0 : World} {b : Nat} {v : Value} {w : World} (h : KH W0 b v w) : KH W0 b v w.drew := h.grow ((Below.refl _ _).drew)

set_option maxRecDepth 100000 in
set_option maxHeartbeats 4000000 in
theorem kidsFit_object (t : ByteArray) (m e : Int) (a : Option Addr) (c : Nat) (F : Fo) (w : World) (hin : F.In w a) (hl : F.len ≤ c) (hc : c ≤ maxLen) :
    Calls Try.prog 83 #[nodeV 22 t m e a F.len c] w fun r w' => r = .returned (.bool (decide (F.cnt 23 F.len = F.len) && F.dist F.len)) ∧ Below w.heap.size w w' := by
  have hcn := F.cnt_le 23 F.len
  have hcc := hc
  unfold maxLen at hcc
  go_enter Try.func83, Try.ntmps83
  go_wp2_with fail
  obtain ⟨W0, hW0⟩ : ∃ W0, W0 = w.alloc (.cells #[.int .i64 22, .string t, .int .i64 m, .int .i64 e, .slice a F.len c] 33) := ⟨_, rfl⟩
  have hB0 : Below w.heap.size w W0 := by subst hW0; exact (Below.refl _ w).alloc (Nat.le_refl _) _
  have A0 : W0.cell? ⟨w.heap.size, 4, none⟩ = some (.slice a F.len c) := by subst hW0; simp
  rw [← hW0]
  clear hW0
  have HC := countKind_any F 23 a F.len c
  have HD := distinct_any F a F.len c
  by_cases hq : F.cnt 23 F.len = F.len
  · rw [hq] at HC
    have HP : Hid ((decide (F.cnt 23 F.len = F.len) && F.dist F.len) = F.dist F.len) := by unfold Hid; simp [hq]
    clear hq hcn
    have HI : ∀ W, (W.cell? ⟨w.heap.size, 4, none⟩ = some (.slice a F.len c) ∧ Below W0.heap.size W0 W) → F.In W a := fun W h => hin.grow (hB0.trans (h.2.mono hB0.size))
    have hS0 : W0.cell? ⟨w.heap.size, 4, none⟩ = some (.slice a F.len c) ∧ Below W0.heap.size W0 W0 := ⟨A0, Below.refl _ _⟩
    generalize hdd : F.dist F.len = dd at HD
    have HDD : Hid (F.dist F.len = dd) := hdd
    clear hdd A0
    generalize hn : F.len = n at HC HD HI hS0 hl ⊢
    clear hn
    refine wp_region_held_drew (S := fun w' => w'.cell? ⟨w.heap.size, 4, none⟩ = some (.slice a n c) ∧ Below W0.heap.size W0 w') (by kernel_rfl) (KH.drew hS0) (fun hHeld => ?_)
    refine wpAnyH_take (i := 0) (v := .pointer (some ⟨w.heap.size, 4, none⟩)) rfl (by kernel_rfl) (by kernel_rfl) (by kernel_rfl) (fun _ _ _ h => h) (Or.inl ⟨by rfl, ?_⟩) (by assumption) ?_
    · intro w hSw
      (try dsimp only at hSw)
      go_simp
    (try simp only [Act.put, List.getElem_toArray, List.getElem_cons_zero, List.setIfInBounds_toArray, List.set_cons_zero, List.set_cons_succ])
    refine wpAnyH_take (i := 1) (v := .slice a n c) rfl (by kernel_rfl) (by kernel_rfl) (by kernel_rfl) (fun _ _ _ h => h) (Or.inl ⟨by rfl, ?_⟩) (by assumption) ?_
    · intro w hSw
      (try dsimp only at hSw)
      go_simp
    (try simp only [Act.put, List.getElem_toArray, List.getElem_cons_zero, List.getElem_cons_succ, List.setIfInBounds_toArray, List.set_cons_zero, List.set_cons_succ])
    refine wpAnyH_take (i := 3) (v := .pointer (some ⟨w.heap.size, 4, none⟩)) rfl (by kernel_rfl) (by kernel_rfl) (by kernel_rfl) (fun _ _ _ h => h) (Or.inl ⟨by rfl, ?_⟩) (by assumption) ?_
    · intro w hSw
      (try dsimp only at hSw)
      go_simp
    (try simp only [Act.put, List.getElem_toArray, List.getElem_cons_zero, List.getElem_cons_succ, List.setIfInBounds_toArray, List.set_cons_zero, List.set_cons_succ])
    refine wpAnyH_take (i := 4) (v := .slice a n c) rfl (by kernel_rfl) (by kernel_rfl) (by kernel_rfl) (fun _ _ _ h => h) (Or.inl ⟨by rfl, ?_⟩) (by assumption) ?_
    · intro w hSw
      (try dsimp only at hSw)
      go_simp
    (try simp only [Act.put, List.getElem_toArray, List.getElem_cons_zero, List.getElem_cons_succ, List.setIfInBounds_toArray, List.set_cons_zero, List.set_cons_succ])
    refine wpAnyH_take (i := 5) (v := .int .i64 n) rfl (by kernel_rfl) (by kernel_rfl) (by kernel_rfl) (fun _ _ _ h => h) (Or.inl ⟨by rfl, ?_⟩) (by assumption) ?_
    · intro w hSw
      (try dsimp only at hSw)
      go_simp
    (try simp only [Act.put, List.getElem_toArray, List.getElem_cons_zero, List.getElem_cons_succ, List.setIfInBounds_toArray, List.set_cons_zero, List.set_cons_succ])
    refine wpAnyH_ready (rs := [2]) (by kernel_rfl) (by simp) ?_
    refine AllReadyH.cons rfl (fun K hK => ?_) AllReadyH.nil
    go_simp
    refine (HC _ (HI _ (by assumption)) (Nat.le_refl _) hl hc).mono ?_
    rintro e w1' ⟨rfl, hb1⟩
    have hS := KH.grow (by assumption) hb1
    go_wp2_with fail
    refine hK.out _ _ hS (fun hHeld => ?_)
    clear hK K hS hb1
    refine wpAnyH_take (i := 6) (v := .bool true) rfl (by kernel_rfl) (by kernel_rfl) (by kernel_rfl) (fun _ _ _ h => h) (Or.inl ⟨by rfl, ?_⟩) (by assumption) ?_
    · intro w hSw
      (try dsimp only at hSw)
      go_simp
    (try simp only [Act.put, List.getElem_toArray, List.getElem_cons_zero, List.getElem_cons_succ, List.setIfInBounds_toArray, List.set_cons_zero, List.set_cons_succ])
    refine wpAnyH_take (i := 7) (v := .bool true) rfl (by kernel_rfl) (by kernel_rfl) (by kernel_rfl) (fun _ _ _ h => h) (Or.inl ⟨by rfl, ?_⟩) (by assumption) ?_
    · intro w hSw
      (try dsimp only at hSw)
      go_simp
    (try simp only [Act.put, List.getElem_toArray, List.getElem_cons_zero, List.getElem_cons_succ, List.setIfInBounds_toArray, List.set_cons_zero, List.set_cons_succ])
    refine wpAnyH_take (i := 8) (v := .pointer (some ⟨w.heap.size, 4, none⟩)) rfl (by kernel_rfl) (by kernel_rfl) (by kernel_rfl) (fun _ _ _ h => h) (Or.inl ⟨by rfl, ?_⟩) (by assumption) ?_
    · intro w hSw
      (try dsimp only at hSw)
      go_simp
    (try simp only [Act.put, List.getElem_toArray, List.getElem_cons_zero, List.getElem_cons_succ, List.setIfInBounds_toArray, List.set_cons_zero, List.set_cons_succ])
    refine wpAnyH_take (i := 9) (v := .slice a n c) rfl (by kernel_rfl) (by kernel_rfl) (by kernel_rfl) (fun _ _ _ h => h) (Or.inl ⟨by rfl, ?_⟩) (by assumption) ?_
    · intro w hSw
      (try dsimp only at hSw)
      go_simp
    (try simp only [Act.put, List.getElem_toArray, List.getElem_cons_zero, List.getElem_cons_succ, List.setIfInBounds_toArray, List.set_cons_zero, List.set_cons_succ])
    refine wpAnyH_ready (rs := [10]) (by kernel_rfl) (by simp) ?_
    refine AllReadyH.cons rfl (fun K hK => ?_) AllReadyH.nil
    rw [if_pos (by rfl)]
    go_simp
    refine (HD _ (HI _ (by assumption)) (Nat.le_refl _) hl hc).mono ?_
    rintro e w1' ⟨rfl, hb1⟩
    have hS := KH.grow (by assumption) hb1
    go_wp2_with fail
    refine hK.out _ _ hS (fun hHeld => ?_)
    clear hK K hS hb1
    refine wpAnyH_take (i := 11) (v := .bool dd) rfl (by kernel_rfl) (by kernel_rfl) (by kernel_rfl) (fun _ _ _ h => h) (Or.inl ⟨by rfl, ?_⟩) (by assumption) ?_
    · intro w hSw
      (try dsimp only at hSw)
      go_simp
    (try simp only [Act.put, List.getElem_toArray, List.getElem_cons_zero, List.getElem_cons_succ, List.setIfInBounds_toArray, List.set_cons_zero, List.set_cons_succ])
    refine wpAnyH_take (i := 12) (v := .bool dd) rfl (by kernel_rfl) (by kernel_rfl) (by kernel_rfl) (fun _ _ _ h => h) (Or.inl ⟨by rfl, ?_⟩) (by assumption) ?_
    · intro w hSw
      (try dsimp only at hSw)
      go_simp
    (try simp only [Act.put, List.getElem_toArray, List.getElem_cons_zero, List.getElem_cons_succ, List.setIfInBounds_toArray, List.set_cons_zero, List.set_cons_succ])
    refine wpAnyH_done (by kernel_rfl) ?_ _
    go_wp2_with fail
    go_ret
    exact ⟨by rw [HP.out, HDD.out]; rfl, hB0.trans (hHeld.2.mono hB0.size)⟩
  · skip
    have HP : Hid ((decide (F.cnt 23 F.len = F.len) && F.dist F.len) = false) := by unfold Hid; simp [hq]
    have hne : ((F.cnt 23 F.len : Int) == (F.len : Int)) = false := by simp; omega
    clear hq hcn
    have HI : ∀ W, (W.cell? ⟨w.heap.size, 4, none⟩ = some (.slice a F.len c) ∧ Below W0.heap.size W0 W) → F.In W a := fun W h => hin.grow (hB0.trans (h.2.mono hB0.size))
    have hS0 : W0.cell? ⟨w.heap.size, 4, none⟩ = some (.slice a F.len c) ∧ Below W0.heap.size W0 W0 := ⟨A0, Below.refl _ _⟩
    generalize hdd : F.dist F.len = dd at HD
    have HDD : Hid (F.dist F.len = dd) := hdd
    clear hdd A0
    generalize hcn : F.cnt 23 F.len = cn at HC hne
    clear hcn
    generalize hn : F.len = n at HC HD HI hS0 hl ⊢ hne
    clear hn
    refine wp_region_held_drew (S := fun w' => w'.cell? ⟨w.heap.size, 4, none⟩ = some (.slice a n c) ∧ Below W0.heap.size W0 w') (by kernel_rfl) (KH.drew hS0) (fun hHeld => ?_)
    refine wpAnyH_take (i := 0) (v := .pointer (some ⟨w.heap.size, 4, none⟩)) rfl (by kernel_rfl) (by kernel_rfl) (by kernel_rfl) (fun _ _ _ h => h) (Or.inl ⟨by rfl, ?_⟩) (by assumption) ?_
    · intro w hSw
      (try dsimp only at hSw)
      go_simp
    (try simp only [Act.put, List.getElem_toArray, List.getElem_cons_zero, List.setIfInBounds_toArray, List.set_cons_zero, List.set_cons_succ])
    refine wpAnyH_take (i := 1) (v := .slice a n c) rfl (by kernel_rfl) (by kernel_rfl) (by kernel_rfl) (fun _ _ _ h => h) (Or.inl ⟨by rfl, ?_⟩) (by assumption) ?_
    · intro w hSw
      (try dsimp only at hSw)
      go_simp
    (try simp only [Act.put, List.getElem_toArray, List.getElem_cons_zero, List.getElem_cons_succ, List.setIfInBounds_toArray, List.set_cons_zero, List.set_cons_succ])
    refine wpAnyH_take (i := 3) (v := .pointer (some ⟨w.heap.size, 4, none⟩)) rfl (by kernel_rfl) (by kernel_rfl) (by kernel_rfl) (fun _ _ _ h => h) (Or.inl ⟨by rfl, ?_⟩) (by assumption) ?_
    · intro w hSw
      (try dsimp only at hSw)
      go_simp
    (try simp only [Act.put, List.getElem_toArray, List.getElem_cons_zero, List.getElem_cons_succ, List.setIfInBounds_toArray, List.set_cons_zero, List.set_cons_succ])
    refine wpAnyH_take (i := 4) (v := .slice a n c) rfl (by kernel_rfl) (by kernel_rfl) (by kernel_rfl) (fun _ _ _ h => h) (Or.inl ⟨by rfl, ?_⟩) (by assumption) ?_
    · intro w hSw
      (try dsimp only at hSw)
      go_simp
    (try simp only [Act.put, List.getElem_toArray, List.getElem_cons_zero, List.getElem_cons_succ, List.setIfInBounds_toArray, List.set_cons_zero, List.set_cons_succ])
    refine wpAnyH_take (i := 5) (v := .int .i64 n) rfl (by kernel_rfl) (by kernel_rfl) (by kernel_rfl) (fun _ _ _ h => h) (Or.inl ⟨by rfl, ?_⟩) (by assumption) ?_
    · intro w hSw
      (try dsimp only at hSw)
      go_simp
    (try simp only [Act.put, List.getElem_toArray, List.getElem_cons_zero, List.getElem_cons_succ, List.setIfInBounds_toArray, List.set_cons_zero, List.set_cons_succ])
    refine wpAnyH_ready (rs := [2]) (by kernel_rfl) (by simp) ?_
    refine AllReadyH.cons rfl (fun K hK => ?_) AllReadyH.nil
    go_simp
    refine (HC _ (HI _ (by assumption)) (Nat.le_refl _) hl hc).mono ?_
    rintro e w1' ⟨rfl, hb1⟩
    have hS := KH.grow (by assumption) hb1
    go_wp2_with fail
    refine hK.out _ _ hS (fun hHeld => ?_)
    clear hK K hS hb1
    refine wpAnyH_take (i := 6) (v := .bool false) rfl (by kernel_rfl) (by kernel_rfl) (by kernel_rfl) (fun _ _ _ h => h) (Or.inl ⟨by rfl, ?_⟩) (by assumption) ?_
    · intro w hSw
      (try dsimp only at hSw)
      go_simp
    (try simp only [Act.put, List.getElem_toArray, List.getElem_cons_zero, List.getElem_cons_succ, List.setIfInBounds_toArray, List.set_cons_zero, List.set_cons_succ])
    refine wpAnyH_take (i := 7) (v := .bool false) rfl (by kernel_rfl) (by kernel_rfl) (by kernel_rfl) (fun _ _ _ h => h) (Or.inl ⟨by rfl, ?_⟩) (by assumption) ?_
    · intro w hSw
      (try dsimp only at hSw)
      go_simp
    (try simp only [Act.put, List.getElem_toArray, List.getElem_cons_zero, List.getElem_cons_succ, List.setIfInBounds_toArray, List.set_cons_zero, List.set_cons_succ])
    refine wpAnyH_take (i := 8) (v := undef) rfl (by kernel_rfl) (by kernel_rfl) (by kernel_rfl) (fun _ _ _ h => h) (Or.inr ⟨by rfl, rfl⟩) (by assumption) ?_
    (try simp only [Act.put, List.getElem_toArray, List.getElem_cons_zero, List.getElem_cons_succ, List.setIfInBounds_toArray, List.set_cons_zero, List.set_cons_succ])
    refine wpAnyH_take (i := 9) (v := undef) rfl (by kernel_rfl) (by kernel_rfl) (by kernel_rfl) (fun _ _ _ h => h) (Or.inr ⟨by rfl, rfl⟩) (by assumption) ?_
    (try simp only [Act.put, List.getElem_toArray, List.getElem_cons_zero, List.getElem_cons_succ, List.setIfInBounds_toArray, List.set_cons_zero, List.set_cons_succ])
    refine wpAnyH_take (i := 10) (v := undef) rfl (by kernel_rfl) (by kernel_rfl) (by kernel_rfl) (fun _ _ _ h => h) (Or.inr ⟨by rfl, rfl⟩) (by assumption) ?_
    (try simp only [Act.put, List.getElem_toArray, List.getElem_cons_zero, List.getElem_cons_succ, List.setIfInBounds_toArray, List.set_cons_zero, List.set_cons_succ])
    refine wpAnyH_take (i := 11) (v := .bool false) rfl (by kernel_rfl) (by kernel_rfl) (by kernel_rfl) (fun _ _ _ h => h) (Or.inl ⟨by rfl, ?_⟩) (by assumption) ?_
    · intro w hSw
      (try dsimp only at hSw)
      go_simp
    (try simp only [Act.put, List.getElem_toArray, List.getElem_cons_zero, List.getElem_cons_succ, List.setIfInBounds_toArray, List.set_cons_zero, List.set_cons_succ])
    refine wpAnyH_take (i := 12) (v := .bool false) rfl (by kernel_rfl) (by kernel_rfl) (by kernel_rfl) (fun _ _ _ h => h) (Or.inl ⟨by rfl, ?_⟩) (by assumption) ?_
    · intro w hSw
      (try dsimp only at hSw)
      go_simp
    (try simp only [Act.put, List.getElem_toArray, List.getElem_cons_zero, List.getElem_cons_succ, List.setIfInBounds_toArray, List.set_cons_zero, List.set_cons_succ])
    refine wpAnyH_done (by kernel_rfl) ?_ _
    go_wp2_with fail
    go_ret
    exact ⟨by rw [HP.out]; rfl, hB0.trans (hHeld.2.mono hB0.size)⟩
end Go.Proofs.Ytbbbmmemfndnlaa
/- Contracts for trees that are ok: what is right below a function, and others. -/
namespace Go.Proofs.Ytbbbmmemfndnlaa
open Go.RowKit

theorem box4 (w : World) (k : Int) (t : ByteArray) (m e : Int) (v : Value) (ty : TypeId) : (w.alloc (.cells #[.int .i64 k, .string t, .int .i64 m, .int .i64 e, v] ty)).cell? ⟨w.heap.size, 4, none⟩ = some v := by simp
theorem box1 (w : World) (k : Int) (t : ByteArray) (m e : Int) (v : Value) (ty : TypeId) : (w.alloc (.cells #[.int .i64 k, .string t, .int .i64 m, .int .i64 e, v] ty)).cell? ⟨w.heap.size, 1, none⟩ = some (.string t) := by simp

set_option maxRecDepth 100000 in
set_option maxHeartbeats 4000000 in
theorem kidsFit_func (t : ByteArray) (m e : Int) (a : Option Addr) (c : Nat) (F : Fo) (w : World) (hin : F.In w a) (hl : F.len ≤ c) (hc : c ≤ maxLen) (h1 : 1 ≤ F.len) :
    Calls Try.prog 83 #[nodeV 16 t m e a F.len c] w fun r w' => r = .returned (.bool (decide (F.cnt 6 (F.len - 1) = F.len - 1) && (F.dist (F.len - 1) && decide (F.cnt 23 F.len = 0)))) ∧ Below w.heap.size w w' := by
  obtain ⟨b, o, rfl, hF⟩ : ∃ b o, a = some ⟨b, o, none⟩ ∧ F.From w b o := by
    rcases hin with rfl | h
    · exact absurd h1 (by show ¬ 1 ≤ 0; omega)
    · exact h
  have hcc := hc
  unfold maxLen at hcc
  obtain ⟨n, hn⟩ : ∃ n, F.len = n + 1 := ⟨F.len - 1, by omega⟩
  have HC6 := countKind_any F 6 (some ⟨b, o, none⟩) n c
  have HD := distinct_any F (some ⟨b, o, none⟩) n c
  have HC := countKind_any F 23 (some ⟨b, o, none⟩) (n + 1) c
  have hcn6 := F.cnt_le 6 n
  have hcn := F.cnt_le 23 (n + 1)
  rw [hn] at HC6 HD HC hl ⊢
  rw [show n + 1 - 1 = n by omega]
  have HP : Hid (∀ W, Below w.heap.size w W → F.In W (some ⟨b, o, none⟩)) := fun W h => Fo.In.grow (.inr ⟨b, o, rfl, hF⟩) h
  clear hF hin hn h1
  generalize F.cnt 6 n = c6 at *
  generalize F.dist n = dd at *
  generalize F.cnt 23 (n + 1) = c23 at *
  have hB0 := (Below.refl _ w).alloc (Nat.le_refl _) (.cells #[.int .i64 16, .string t, .int .i64 m, .int .i64 e, .slice (some ⟨b, o, none⟩) (n + 1) c] 33)
  have A0 := box4 w 16 t m e (.slice (some ⟨b, o, none⟩) (n + 1) c) 33
  go_enter Try.func83, Try.ntmps83
  go_wp2_with fail
  refine (HC6 _ (HP.out _ hB0) (by omega) (by omega) hc).mono ?_
  rintro e1 w1 ⟨rfl, hb1⟩
  have hB1 := hB0.trans (hb1.mono hB0.size)
  have A1 := (hb1.cell (p := ⟨w.heap.size, 4, none⟩) (World.block_lt_of_cell? _ _ A0)).trans A0
  clear A0 hb1 hB0
  by_cases h6 : c6 = n
  · subst h6
    have g : ((c6 : Int) < (c6 : Int)) = False := by simp
    go_wp2_with fail
    refine (HD _ (HP.out _ hB1) (by omega) (by omega) hc).mono ?_
    rintro e1 w2 ⟨rfl, hb2⟩
    have hB2 := hB1.trans (hb2.mono hB1.size)
    have A2 := (hb2.cell (p := ⟨w.heap.size, 4, none⟩) (World.block_lt_of_cell? _ _ A1)).trans A1
    clear A1 hb2 hB1
    cases dd
    · go_wp2_with fail
      go_ret
      exact ⟨lret_bool (by simp), hB2⟩
    · go_wp2_with fail
      refine (HC _ (HP.out _ hB2) (by omega) (by omega) hc).mono ?_
      rintro e1 w3 ⟨rfl, hb3⟩
      have hB3 := hB2.trans (hb3.mono hB2.size)
      go_wp2_with fail
      go_ret
      exact ⟨lret_bool (by rw [Bool.eq_iff_iff]; simp), hB3⟩
  · have g : (c6 : Int) < (n : Int) := by omega
    go_wp2_with fail
    go_ret
    exact ⟨lret_bool (by simp [h6]), hB1⟩

set_option maxRecDepth 100000 in
set_option maxHeartbeats 4000000 in
theorem kidsFit_std (t : ByteArray) (m e : Int) (a : Option Addr) (c : Nat) (F : Fo) (w : World) (hin : F.In w a) (hl : F.len ≤ c) (hc : c ≤ maxLen) :
    Calls Try.prog 83 #[nodeV 24 t m e a F.len c] w fun r w' => r = .returned (.bool (decide (Om.std t.toList = F.len) && decide (F.cnt 23 F.len = 0))) ∧ Below w.heap.size w w' := by
  have hcc := hc
  unfold maxLen at hcc
  have HC := countKind_any F 23 a F.len c
  have hcn := F.cnt_le 23 F.len
  have hsl := Om.std_le t.toList
  have HP : Hid (∀ W, Below w.heap.size w W → F.In W a) := fun W h => hin.grow h
  have hS := stdKids_any t
  clear hin
  generalize F.cnt 23 F.len = c23 at *
  generalize F.len = n at *
  generalize Om.std t.toList = st at *
  have hB0 := (Below.refl _ w).alloc (Nat.le_refl _) (.cells #[.int .i64 24, .string t, .int .i64 m, .int .i64 e, .slice a n c] 33)
  have A0 := box4 w 24 t m e (.slice a n c) 33
  have A1 := box1 w 24 t m e (.slice a n c) 33
  go_enter Try.func83, Try.ntmps83
  go_wp2_with fail
  generalize w.alloc (.cells #[.int .i64 24, .string t, .int .i64 m, .int .i64 e, .slice a n c] 33) = W0 at *
  go_quiet ((go_at_call 99; exact Calls.quiet_of_same (hS _)))
  by_cases hst : st = n
  · subst hst
    go_wp2_with fail
    refine (HC _ (HP.out _ (below_drewN hB0 _)) (by omega) (by omega) hc).mono ?_
    rintro e1 w3 ⟨rfl, hb3⟩
    have hB3 := (below_drewN hB0 _).trans (hb3.mono (below_drewN hB0 _).size)
    go_wp2_with fail
    go_ret
    exact ⟨lret_bool (by rw [Bool.eq_iff_iff]; simp), hB3⟩
  · have hne : ((st : Int) != (n : Int)) = true := by simp; omega
    go_wp2_with fail
    go_ret
    exact ⟨lret_bool (by simp [hst]), below_drewN hB0 _⟩

set_option maxRecDepth 100000 in
set_option maxHeartbeats 4000000 in
theorem kidsFit_other (k : Int) (t : ByteArray) (m e : Int) (a : Option Addr) (c : Nat) (F : Fo) (w : World) (hin : F.In w a) (hl : F.len ≤ c) (hc : c ≤ maxLen) (n1 : ¬ k = 22) (n2 : ¬ k = 16) (n3 : ¬ k = 24) :
    Calls Try.prog 83 #[nodeV k t m e a F.len c] w fun r w' => r = .returned (.bool (decide (F.cnt 23 F.len = 0))) ∧ Below w.heap.size w w' := by
  have hcc := hc
  unfold maxLen at hcc
  have HC := countKind_any F 23 a F.len c
  have hcn := F.cnt_le 23 F.len
  have HP : Hid (∀ W, Below w.heap.size w W → F.In W a) := fun W h => hin.grow h
  clear hin
  have g1 : (k == 22) = false := by simp [n1]
  have g2 : (k == 16) = false := by simp [n2]
  have g3 : (k == 24) = false := by simp [n3]
  generalize F.cnt 23 F.len = c23 at *
  generalize F.len = n at *
  have hB0 := (Below.refl _ w).alloc (Nat.le_refl _) (.cells #[.int .i64 k, .string t, .int .i64 m, .int .i64 e, .slice a n c] 33)
  go_enter Try.func83, Try.ntmps83
  go_wp2_with fail
  refine (HC _ (HP.out _ hB0) (by omega) (by omega) hc).mono ?_
  rintro e1 w3 ⟨rfl, hb3⟩
  have hB3 := hB0.trans (hb3.mono hB0.size)
  go_wp2_with fail
  go_ret
  exact ⟨lret_bool (by rw [Bool.eq_iff_iff]; simp), hB3⟩
theorem kidsFit_any (k : Int) (t : ByteArray) (m e : Int) (a : Option Addr) (c : Nat) (F : Fo) (w : World) (hin : F.In w a) (hl : F.len ≤ c) (hc : c ≤ maxLen) (h16 : k = 16 → 1 ≤ F.len) :
    Calls Try.prog 83 #[nodeV k t m e a F.len c] w fun r w' => r = .returned (.bool (Om.below k t F)) ∧ Below w.heap.size w w' := by
  unfold Om.below
  by_cases h1 : k = 22
  · rw [if_pos h1]; subst h1; exact kidsFit_object t m e a c F w hin hl hc
  rw [if_neg h1]
  by_cases h2 : k = 16
  · rw [if_pos h2]; have := h16 h2; subst h2; exact kidsFit_func t m e a c F w hin hl hc this
  rw [if_neg h2]
  by_cases h3 : k = 24
  · rw [if_pos h3]; subst h3; exact kidsFit_std t m e a c F w hin hl hc
  rw [if_neg h3]
  exact kidsFit_other k t m e a c F w hin hl hc h1 h2 h3
end Go.Proofs.Ytbbbmmemfndnlaa
/- Contracts for trees that are ok, of the specification: the text of a node; a field. -/
namespace Go.Proofs.Ytbbbmmemfndnlaa
open Go.RowKit
/-- the text is as its kind has it, by the specification -/
def sText (k : Int) (t : ByteArray) (n : Nat) : Bool := if k = 24 then decide (stdOr t.toList = (n : Int)) else if k = 23 then (t.toList == []) else Om.textOf (Om.sort k) t
set_option maxRecDepth 100000 in
set_option maxHeartbeats 2000000 in
theorem l3Text_any (k : Int) (t : ByteArray) (m e : Int) (a : Option Addr) (n c : Nat) (w : World) (ht : t.size ≤ maxLen) :
    Calls Try.prog 73 #[nodeV k t m e a n c] w fun r w' => r = .returned (.bool (sText k t n)) ∧ Below w.heap.size w w' := by
  have htt := ht
  unfold maxLen at htt
  have hB0 := (Below.refl _ w).alloc (Nat.le_refl _) (.cells #[.int .i64 k, .string t, .int .i64 m, .int .i64 e, .slice a n c] 33)
  by_cases h5 : k = 5
  · subst h5
    go_enter Try.func73, Try.ntmps73
    go_wp2_with fail
    go_ret
    exact ⟨lret_bool (by rw [Bool.eq_iff_iff]; simp [sText, Om.sort, Om.textOf]; omega), hB0⟩
  by_cases h6 : k = 6
  · subst h6
    go_enter Try.func73, Try.ntmps73
    go_wp2_with fail
    refine (sNameOk_any t _ ht).mono ?_
    rintro r w1 ⟨rfl, hb1⟩
    have hB1 := hB0.trans (hb1.mono hB0.size)
    go_wp2_with fail
    go_ret
    exact ⟨rfl, hB1⟩
  by_cases h8 : k = 8
  · subst h8
    go_enter Try.func73, Try.ntmps73
    go_wp2_with fail
    refine (sNameOk_any t _ ht).mono ?_
    rintro r w1 ⟨rfl, hb1⟩
    have hB1 := hB0.trans (hb1.mono hB0.size)
    go_wp2_with fail
    go_ret
    exact ⟨rfl, hB1⟩
  by_cases h18 : k = 18
  · subst h18
    go_enter Try.func73, Try.ntmps73
    go_wp2_with fail
    refine (sNameOk_any t _ ht).mono ?_
    rintro r w1 ⟨rfl, hb1⟩
    have hB1 := hB0.trans (hb1.mono hB0.size)
    go_wp2_with fail
    go_ret
    exact ⟨rfl, hB1⟩
  by_cases h15 : k = 15
  · subst h15
    go_enter Try.func73, Try.ntmps73
    go_wp2_with fail
    refine (sNameOk_any t _ ht).mono ?_
    rintro r w1 ⟨rfl, hb1⟩
    have hB1 := hB0.trans (hb1.mono hB0.size)
    go_wp2_with fail
    go_ret
    exact ⟨rfl, hB1⟩
  by_cases h21 : k = 21
  · subst h21
    go_enter Try.func73, Try.ntmps73
    go_wp2_with fail
    refine (sNameOk_any t _ ht).mono ?_
    rintro r w1 ⟨rfl, hb1⟩
    have hB1 := hB0.trans (hb1.mono hB0.size)
    go_wp2_with fail
    go_ret
    exact ⟨rfl, hB1⟩
  by_cases h9 : k = 9
  · subst h9
    go_enter Try.func73, Try.ntmps73
    go_wp2_with fail
    refine (sNameOk_any t _ ht).mono ?_
    rintro r w1 ⟨rfl, hb1⟩
    have hB1 := hB0.trans (hb1.mono hB0.size)
    go_wp2_with fail
    go_ret
    exact ⟨rfl, hB1⟩
  by_cases h13 : k = 13
  · subst h13
    go_enter Try.func73, Try.ntmps73
    go_wp2_with fail
    refine (l3Level_any t _).mono ?_
    rintro r w1 ⟨⟨z, rfl, hz⟩, hb1⟩
    have HZ : Hid (decide (0 ≤ z) = Qm.has Om.signs t.toList) := hz
    clear hz
    have hB1 := hB0.trans (hb1.mono hB0.size)
    go_wp2_with fail
    go_ret
    exact ⟨lret_bool HZ.out, hB1⟩
  by_cases h24 : k = 24
  · subst h24
    have hS := l3Std_any t
    have hst : -1 ≤ stdOr t.toList ∧ stdOr t.toList ≤ 3 := by have := Om.std_le t.toList; unfold stdOr; split <;> omega
    have HX : Hid (sText 24 t n = decide (stdOr t.toList = (n : Int))) := rfl
    rw [HX.out]
    generalize stdOr t.toList = z at *
    have A0 := box4 w 24 t m e (.slice a n c) 33
    have A1 := box1 w 24 t m e (.slice a n c) 33
    go_enter Try.func73, Try.ntmps73
    go_wp2_with fail
    generalize w.alloc (.cells #[.int .i64 24, .string t, .int .i64 m, .int .i64 e, .slice a n c] 33) = W0 at *
    go_quiet ((go_at_call 97; exact Calls.quiet_of_same (hS _)))
    go_wp2_with fail
    go_ret
    exact ⟨lret_bool (by rw [Bool.eq_iff_iff]; simp), below_drewN hB0 _⟩
  have g5 : (k == 5) = false := by simp [h5]
  have g6 : (k == 6) = false := by simp [h6]
  have g8 : (k == 8) = false := by simp [h8]
  have g18 : (k == 18) = false := by simp [h18]
  have g15 : (k == 15) = false := by simp [h15]
  have g21 : (k == 21) = false := by simp [h21]
  have g9 : (k == 9) = false := by simp [h9]
  have g13 : (k == 13) = false := by simp [h13]
  have g24 : (k == 24) = false := by simp [h24]
  have HX : Hid (sText k t n = (t.toList == [])) := by
    unfold Hid sText
    rw [if_neg h24]
    by_cases h23 : k = 23
    · rw [if_pos h23]
    · rw [if_neg h23]
      have : Om.sort k = 0 := by unfold Om.sort; simp [h5, h6, h8, h18, h15, h21, h9, h13, h24, h23]
      rw [this]; rfl
  rw [HX.out]
  go_enter Try.func73, Try.ntmps73
  go_wp2_with fail
  go_ret
  exact ⟨lret_bool (by first | rfl | (rw [Bool.eq_iff_iff]; simp)), hB0⟩
end Go.Proofs.Ytbbbmmemfndnlaa
/- Contracts for trees that are ok, of the specification: a field. -/
namespace Go.Proofs.Ytbbbmmemfndnlaa
open Go.RowKit
/-- a field, but for what it is -/
def sField (k : Int) (t : ByteArray) (m e : Int) (n : Nat) : Bool := decide (k = 23) && (Qm.name t && (decide (n = 1) && (decide (e = 0) && (decide (0 ≤ m) && decide (m ≤ 2)))))
set_option maxRecDepth 100000 in
set_option maxHeartbeats 2000000 in
theorem l3Field_any (k : Int) (t : ByteArray) (m e : Int) (a : Option Addr) (n c : Nat) (w : World) (ht : t.size ≤ maxLen) :
    Calls Try.prog 98 #[nodeV k t m e a n c] w fun r w' => r = .returned (.bool (sField k t m e n)) ∧ Below w.heap.size w w' := by
  have hB0 := (Below.refl _ w).alloc (Nat.le_refl _) (.cells #[.int .i64 k, .string t, .int .i64 m, .int .i64 e, .slice a n c] 33)
  have a2 : (w.alloc (.cells #[.int .i64 k, .string t, .int .i64 m, .int .i64 e, .slice a n c] 33)).cell? ⟨w.heap.size, 2, none⟩ = some (.int .i64 m) := by simp
  have a3 : (w.alloc (.cells #[.int .i64 k, .string t, .int .i64 m, .int .i64 e, .slice a n c] 33)).cell? ⟨w.heap.size, 3, none⟩ = some (.int .i64 e) := by simp
  have a4 : (w.alloc (.cells #[.int .i64 k, .string t, .int .i64 m, .int .i64 e, .slice a n c] 33)).cell? ⟨w.heap.size, 4, none⟩ = some (.slice a n c) := by simp
  by_cases h23 : k = 23
  · subst h23
    have HS : Hid (sField 23 t m e n = (Qm.name t && (decide (n = 1) && (decide (e = 0) && (decide (0 ≤ m) && decide (m ≤ 2)))))) := by unfold Hid sField; simp
    rw [HS.out]
    clear HS
    go_enter Try.func98, Try.ntmps98
    go_wp2_with fail
    refine (sNameOk_any t _ ht).mono ?_
    rintro r w1 ⟨rfl, hb1⟩
    have hB1 := hB0.trans (hb1.mono hB0.size)
    have c2 := (hb1.cell (p := ⟨w.heap.size, 2, none⟩) (by simp)).trans a2
    have c3 := (hb1.cell (p := ⟨w.heap.size, 3, none⟩) (by simp)).trans a3
    have c4 := (hb1.cell (p := ⟨w.heap.size, 4, none⟩) (by simp)).trans a4
    clear a2 a3 a4 hb1
    generalize hnm : Qm.name t = nm
    have HN : Hid (Qm.name t = nm) := hnm
    clear hnm
    cases nm
    · go_wp2_with fail
      go_ret
      exact ⟨lret_bool (by first | rfl | (rw [HN.out]; done) | (rw [HN.out]; rfl)), hB1⟩
    · by_cases h1 : n = 1
      · subst h1
        by_cases he : e = 0
        · subst he
          by_cases m0 : m = 0
          · subst m0
            go_wp2_with fail
            go_ret
            exact ⟨lret_bool (by first | rfl | (rw [HN.out]; done) | (rw [HN.out]; rfl)), hB1⟩
          · have m0' : (m == 0) = false := by simp [m0]
            by_cases m1 : m = 1
            · subst m1
              go_wp2_with fail
              go_ret
              exact ⟨lret_bool (by first | rfl | (rw [HN.out]; done) | (rw [HN.out]; rfl)), hB1⟩
            · have m1' : (m == 1) = false := by simp [m1]
              by_cases m2 : m = 2
              · subst m2
                go_wp2_with fail
                go_ret
                exact ⟨lret_bool (by first | rfl | (rw [HN.out]; done) | (rw [HN.out]; rfl)), hB1⟩
              · have m2' : (m == 2) = false := by simp [m2]
                have hx : (decide (0 ≤ m) && decide (m ≤ 2)) = false := by rw [← Bool.decide_and]; exact decide_eq_false (by omega)
                have HQ : Hid ((decide (0 ≤ m) && decide (m ≤ 2)) = false) := hx
                clear hx
                go_wp2_with fail
                go_ret
                exact ⟨lret_bool (by first | rfl | (rw [HN.out, HQ.out]; done) | (rw [HN.out, HQ.out]; rfl)), hB1⟩
        · have he' : (e == 0) = false := by simp [he]
          have HQ : Hid (decide (e = 0) = false) := by unfold Hid; simp [he]
          go_wp2_with fail
          all_goals
            go_ret
            exact ⟨lret_bool (by first | rfl | (rw [HN.out, HQ.out]; done) | (rw [HN.out, HQ.out]; rfl)), hB1⟩
      · have h1' : ((n : Int) == 1) = false := by simp; omega
        have HQ : Hid (decide (n = 1) = false) := by unfold Hid; simp [h1]
        go_wp2_with fail
        go_ret
        exact ⟨lret_bool (by first | rfl | (rw [HN.out, HQ.out]; done) | (rw [HN.out, HQ.out]; rfl)), hB1⟩
  · have g : (k == 23) = false := by simp [h23]
    have HS : Hid (sField k t m e n = false) := by unfold Hid sField; simp [h23]
    rw [HS.out]
    go_enter Try.func98, Try.ntmps98
    go_wp2_with fail
    go_ret
    exact ⟨lret_bool rfl, hB0⟩
end Go.Proofs.Ytbbbmmemfndnlaa
