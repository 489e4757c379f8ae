/- Plain mathematics of chapter 2: letters, figures, runs, names, words. -/
namespace Go.Proofs.Ytapdlnakbpociaa.Qm

def low (c : Int) : Bool := (decide (97 ≤ c) && decide (c ≤ 122)) || decide (c = 95)
def fig (c : Int) : Bool := decide (48 ≤ c) && decide (c ≤ 57)
def part (c : Int) : Bool := low c || fig c
def okAt (k : Nat) (c : Int) : Bool := low c || (decide (k ≠ 0) && fig c)
def letters : Nat → List UInt8 → Bool
  | _, [] => true
  | k, c :: t => okAt k c.toNat && letters (k + 1) t
def run (p : Int → Bool) : List UInt8 → Nat
  | [] => 0
  | c :: t => if p c.toNat then 1 + run p t else 0
/-- the words that are no names -/
def words : List (List UInt8) := [[110, 117, 108, 108], [116, 114, 117, 101], [102, 97, 108, 115, 101], [105, 102], [116, 104, 101, 110], [101, 108, 115, 101], [108, 111, 99, 97, 108], [102, 117, 110, 99, 116, 105, 111, 110], [115, 101, 108, 102], [115, 117, 112, 101, 114], [101, 114, 114, 111, 114], [105, 109, 112, 111, 114, 116], [102, 111, 114], [105, 110], [115, 116, 100]]
def has : List (List UInt8) → List UInt8 → Bool
  | [], _ => false
  | x :: t, l => (l == x) || has t l
def name (s : ByteArray) : Bool := letters 0 s.data.toList && (decide (1 ≤ s.size) && decide (s.size ≤ 12)) && !has words s.toList

theorem len_eq (s : ByteArray) : s.data.toList.length = s.size := by rw [Array.length_toList]; rfl
theorem drop_at (s : ByteArray) (k : Nat) (h : k < s.size) : s.data.toList.drop k = s[k] :: s.data.toList.drop (k + 1) := by
  rw [List.drop_eq_getElem_cons (by simpa using h)]; rfl
theorem drop_end (s : ByteArray) (k : Nat) (h : ¬ k < s.size) : s.data.toList.drop k = [] := by
  apply List.drop_eq_nil_of_le; simpa using h
theorem letters_step (s : ByteArray) (k : Nat) (h : k < s.size) : letters k (s.data.toList.drop k) = (okAt k s[k].toNat && letters (k + 1) (s.data.toList.drop (k + 1))) := by
  rw [drop_at s k h]; rfl
theorem run_step (p : Int → Bool) (s : ByteArray) (k : Nat) (h : k < s.size) : run p (s.data.toList.drop k) = if p s[k].toNat then 1 + run p (s.data.toList.drop (k + 1)) else 0 := by
  rw [drop_at s k h]; rfl
theorem run_end (p : Int → Bool) (s : ByteArray) (k : Nat) (h : ¬ k < s.size) : run p (s.data.toList.drop k) = 0 := by
  rw [drop_end s k h]; rfl
theorem run_le (p : Int → Bool) (l : List UInt8) : run p l ≤ l.length := by
  induction l with
  | nil => exact Nat.le_refl _
  | cons c t ih => simp only [run, List.length_cons]; split <;> omega
theorem run_iff (p : Int → Bool) (l : List UInt8) : run p l = l.length ↔ l.all (fun c => p c.toNat) = true := by
  induction l with
  | nil => simp [run]
  | cons c t ih =>
    have := run_le p t
    by_cases h : p c.toNat = true
    · have e : run p (c :: t) = 1 + run p t := by simp [run, h]
      rw [e, List.all_cons, h, Bool.true_and, ← ih, List.length_cons]; omega
    · have e : run p (c :: t) = 0 := by simp [run, h]
      rw [e, List.all_cons, Bool.eq_false_iff.2 h]; simp
theorem run_all (p : Int → Bool) (l : List UInt8) : decide (run p l = l.length) = l.all (fun c => p c.toNat) := by
  rw [Bool.eq_iff_iff, decide_eq_true_iff]; exact run_iff p l
theorem letters_succ (k : Nat) (l : List UInt8) : letters (k + 1) l = l.all (fun c => part c.toNat) := by
  induction l generalizing k with
  | nil => rfl
  | cons c t ih => simp only [letters, List.all_cons, ih (k + 1)]; simp [okAt, part]
theorem letters_part (c : UInt8) (t : List UInt8) : letters 0 (c :: t) = (low c.toNat && decide (run part (c :: t) = (c :: t).length)) := by
  rw [run_all]; simp only [letters, letters_succ, List.all_cons]
  simp [okAt, part]
  cases low c.toNat <;> simp
/-- how the program asks it -/
theorem name_eq (s : ByteArray) (h : 0 < s.size) : name s = (decide (s.size ≤ 12) && (low s[0].toNat && (decide (run part s.data.toList = s.size) && !has words s.toList))) := by
  unfold name
  have e : s.data.toList = s[0] :: s.data.toList.drop 1 := by have := drop_at s 0 h; simpa using this
  have e1 : letters 0 s.data.toList = (low s[0].toNat && decide (run part s.data.toList = s.size)) := by
    have h2 := letters_part s[0] (s.data.toList.drop 1)
    rw [← e] at h2
    rw [h2]; simp
  rw [e1]
  have h1 : decide (1 ≤ s.size) = true := decide_eq_true h
  rw [h1]
  cases decide (s.size ≤ 12) <;> cases low s[0].toNat <;> cases decide (run part s.data.toList = s.size) <;> simp
theorem name_none (s : ByteArray) (h : ¬ 0 < s.size) : name s = false := by
  unfold name
  have : decide (1 ≤ s.size) = false := by simpa using h
  rw [this]; simp
theorem name_long (s : ByteArray) (h : ¬ s.size ≤ 12) : name s = false := by
  unfold name
  have : decide (s.size ≤ 12) = false := by simpa using h
  rw [this]; simp
theorem has_drop (L : List (List UInt8)) (l : List UInt8) (k : Nat) (h : k < L.length) : has (L.drop k) l = ((l == L[k]) || has (L.drop (k + 1)) l) := by
  rw [List.drop_eq_getElem_cons h]; rfl
theorem has_end (L : List (List UInt8)) (l : List UInt8) (k : Nat) (h : ¬ k < L.length) : has (L.drop k) l = false := by
  rw [List.drop_eq_nil_of_le (by omega)]; rfl
end Go.Proofs.Ytapdlnakbpociaa.Qm
