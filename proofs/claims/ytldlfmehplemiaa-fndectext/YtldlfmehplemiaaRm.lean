/- Plain mathematics: how a number is read from its text. -/
import Derived.Test.YtldlfmehplemiaaDm5
import Derived.Test.YtldlfmehplemiaaQm
namespace Go.Proofs.Ytldlfmehplemiaa.Rm
/-- what stands ahead of the first point, and behind it -/
def sp : List UInt8 → List UInt8 × Option (List UInt8)
  | [] => ([], none)
  | c :: t => if c = 46 then ([], some t) else (c :: (sp t).1, (sp t).2)
def whole (l : List UInt8) : Int := l.foldl (fun n c => n * 10 + ((c.toNat : Int) - 48)) 0
def figs (l : List UInt8) : Bool := l.all (fun c => Qm.fig c.toNat) && decide (l ≠ [])
def lead (a : List UInt8) : Bool := decide (1 < a.length) && decide (a.getD 0 0 = 48)
def two (a b : List UInt8) : Int × Int × Bool :=
  if figs a && (!lead a && decide (a.length + b.length ≤ 17)) then Dm.norm (whole (a ++ b)) (-(b.length : Int)) else (0, 0, false)
def uread (u : List UInt8) : Int × Int × Bool :=
  match (sp u).2 with
  | none => two (sp u).1 []
  | some b => if figs b then two (sp u).1 b else (0, 0, false)
def read : List UInt8 → Int × Int × Bool
  | [] => uread []
  | c :: t => if c = 45 then Dm.neg3 (uread t) else uread (c :: t)

theorem sp_none {l : List UInt8} (h : (sp l).2 = none) : (sp l).1 = l := by
  induction l with
  | nil => rfl
  | cons c t ih =>
    simp only [sp] at h ⊢
    split
    · rename_i hc; simp [hc] at h
    · rename_i hc; simp [hc] at h; simp [ih h]
theorem sp_some {l b : List UInt8} (h : (sp l).2 = some b) : l = (sp l).1 ++ 46 :: b := by
  induction l with
  | nil => simp [sp] at h
  | cons c t ih =>
    simp only [sp] at h ⊢
    split
    · rename_i hc; simp [hc] at h; simp [hc, h]
    · rename_i hc; simp [hc] at h; simp only [List.cons_append]; rw [← ih h]
theorem sp_cons_ne {c : UInt8} (t : List UInt8) (h : c ≠ 46) : sp (c :: t) = (c :: (sp t).1, (sp t).2) := by simp [sp, h]
theorem sp_cons_eq (t : List UInt8) : sp (46 :: t) = ([], some t) := rfl
/-- no point among the first k -/
def Past (l : List UInt8) (k : Nat) : Prop := sp l = (l.take k ++ (sp (l.drop k)).1, (sp (l.drop k)).2)
theorem Past.zero (l : List UInt8) : Past l 0 := by simp [Past]
theorem Past.succ {l : List UInt8} {k : Nat} (h : Past l k) (hk : k < l.length) (hc : l[k] ≠ 46) : Past l (k + 1) := by
  unfold Past at h ⊢
  rw [h, List.drop_eq_getElem_cons hk, sp_cons_ne _ hc, List.take_succ_eq_append_getElem hk, List.append_assoc]; rfl
theorem Past.stop {l : List UInt8} {k : Nat} (h : Past l k) (hk : k < l.length) (hc : l[k] = 46) : sp l = (l.take k, some (l.drop (k + 1))) := by
  unfold Past at h
  rw [h, List.drop_eq_getElem_cons hk, hc, sp_cons_eq, List.append_nil]
theorem Past.fin {l : List UInt8} {k : Nat} (h : Past l k) (hk : l.length ≤ k) : sp l = (l, none) := by
  unfold Past at h
  rw [h, List.drop_eq_nil_of_le hk, List.take_of_length_le hk]; simp [sp]
theorem whole_snoc (l : List UInt8) (c : UInt8) : whole (l ++ [c]) = whole l * 10 + ((c.toNat : Int) - 48) := by simp [whole]
theorem whole_take (l : List UInt8) (k : Nat) (h : k < l.length) : whole (l.take (k + 1)) = whole (l.take k) * 10 + ((l[k].toNat : Int) - 48) := by
  rw [List.take_succ_eq_append_getElem h, whole_snoc]
theorem pow_mono10 {a b : Nat} (h : a ≤ b) : (10 : Int) ^ a ≤ 10 ^ b := by
  obtain ⟨c, rfl⟩ := Nat.le.dest h
  rw [Int.pow_add]
  have h1 : (0 : Int) < 10 ^ a := Int.pow_pos (by omega)
  have h2 : (0 : Int) < 10 ^ c := Int.pow_pos (by omega)
  have := Int.mul_le_mul_of_nonneg_left (show (1 : Int) ≤ 10 ^ c by omega) (Int.le_of_lt h1)
  omega
theorem whole_bd (l : List UInt8) (h : l.all (fun c => Qm.fig c.toNat) = true) : ∀ k, k ≤ l.length → 0 ≤ whole (l.take k) ∧ whole (l.take k) < 10 ^ k := by
  intro k
  induction k with
  | zero => intro _; simp [whole]
  | succ k ih =>
    intro hk
    obtain ⟨i1, i2⟩ := ih (by omega)
    have hf : Qm.fig l[k].toNat = true := (List.all_eq_true.1 h) _ (List.getElem_mem _)
    simp [Qm.fig] at hf
    rw [whole_take l k (by omega), Int.pow_succ]
    omega
theorem whole_17 (l : List UInt8) (h : l.all (fun c => Qm.fig c.toNat) = true) (h2 : l.length ≤ 17) (k : Nat) : 0 ≤ whole (l.take k) ∧ whole (l.take k) ≤ 99999999999999999 := by
  by_cases hk : k ≤ l.length
  · obtain ⟨a, b⟩ := whole_bd l h k hk
    have := pow_mono10 (show k ≤ 17 by omega)
    omega
  · rw [List.take_of_length_le (by omega)]
    obtain ⟨a, b⟩ := whole_bd l h l.length (Nat.le_refl _)
    rw [List.take_of_length_le (Nat.le_refl _)] at a b
    have := pow_mono10 h2
    omega
theorem figs_all {l : List UInt8} (h : figs l = true) : l.all (fun c => Qm.fig c.toNat) = true := by
  unfold figs at h; simp only [Bool.and_eq_true] at h; exact h.1
theorem figs_ne {l : List UInt8} (h : figs l = true) : l ≠ [] := by
  unfold figs at h; simp only [Bool.and_eq_true, decide_eq_true_iff] at h; exact h.2
theorem figs_nil : figs [] = false := rfl
theorem all_drop (l : List UInt8) (k : Nat) (hk : k < l.length) : (l.drop k).all (fun c => Qm.fig c.toNat) = (Qm.fig l[k].toNat && (l.drop (k + 1)).all (fun c => Qm.fig c.toNat)) := by
  rw [List.drop_eq_getElem_cons hk]; rfl
end Go.Proofs.Ytldlfmehplemiaa.Rm
