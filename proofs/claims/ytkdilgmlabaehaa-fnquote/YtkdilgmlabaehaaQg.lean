/- Plain mathematics: reading a text between quotes. -/
import Derived.Test.YtkdilgmlabaehaaQq
namespace Go.Proofs.Ytkdilgmlabaehaa.Qm
def hexv (c : UInt8) : Int := if fig c.toNat then (c.toNat : Int) - 48 else if 97 ≤ c.toNat ∧ c.toNat ≤ 102 then (c.toNat : Int) - 87 else -1
def hx : List UInt8 → UInt8 × Nat
  | x :: y :: _ => if 0 ≤ hexv x ∧ 0 ≤ hexv y then (UInt8.ofNat (hexv x * 16 + hexv y).toNat, 4) else (0, 0)
  | _ => (0, 0)
def nx : List UInt8 → UInt8 × Nat
  | [] => (0, 0)
  | c :: t => if plain c.toNat then (c, 1) else if c ≠ 92 then (0, 0) else
    match t with
    | [] => (0, 0)
    | d :: t2 => if d = 110 then (10, 2) else if d = 34 ∨ d = 92 then (d, 2) else if d = 120 then hx t2 else (0, 0)
def gq : Nat → List UInt8 → List UInt8 → Option (List UInt8)
  | _, [], acc => some acc
  | 0, _ :: _, _ => none
  | f + 1, c :: t, acc => if (nx (c :: t)).2 = 0 then none else gq f ((c :: t).drop (nx (c :: t)).2) (acc ++ [(nx (c :: t)).1])
/-- what lies between the first byte and the last -/
def mid (l : List UInt8) : List UInt8 := (l.drop 1).take (l.length - 2)
def quoted (l : List UInt8) : Bool := decide (2 ≤ l.length) && (l.getD 0 0 == 34) && (l.getD (l.length - 1) 0 == 34)
def qget (l : List UInt8) : Option (List UInt8) := if quoted l then gq l.length (mid l) [] else none

theorem hexv_le (c : UInt8) : -1 ≤ hexv c ∧ hexv c ≤ 15 := by
  unfold hexv fig; split
  · rename_i h; simp at h; omega
  · split <;> omega
theorem hx_le (l : List UInt8) : (hx l).2 ≤ l.length + 2 := by
  unfold hx; split
  · split <;> simp
  · simp
theorem nx_le (l : List UInt8) : (nx l).2 ≤ l.length := by
  unfold nx; split
  · simp
  · split
    · simp
    · split
      · simp
      · split
        · simp
        · split
          · simp
          · split
            · simp
            · split
              · have := hx_le ‹_›; simp; omega
              · simp
theorem gq_nil (f : Nat) (acc : List UInt8) : gq f [] acc = some acc := by cases f <;> rfl
theorem gq_stop (f : Nat) (l acc : List UInt8) (h : l ≠ []) (h0 : (nx l).2 = 0) : gq f l acc = none := by
  cases l with
  | nil => exact absurd rfl h
  | cons c t => cases f with
    | zero => rfl
    | succ f => simp only [gq, h0, if_true]
theorem gq_step (f : Nat) (l acc : List UInt8) (h : l ≠ []) (h0 : (nx l).2 ≠ 0) : gq (f + 1) l acc = gq f (l.drop (nx l).2) (acc ++ [(nx l).1]) := by
  cases l with
  | nil => exact absurd rfl h
  | cons c t => simp only [gq, if_neg h0]
theorem nx_nil : nx [] = (0, 0) := rfl
theorem nx_plain (c : UInt8) (t : List UInt8) (h : plain c.toNat = true) : nx (c :: t) = (c, 1) := by simp [nx, h]
theorem nx_other (c : UInt8) (t : List UInt8) (h : plain c.toNat = false) (h2 : c ≠ 92) : nx (c :: t) = (0, 0) := by simp [nx, h, h2]
theorem nx_bare : nx [92] = (0, 0) := rfl
theorem nx_n (t : List UInt8) : nx (92 :: 110 :: t) = (10, 2) := rfl
theorem nx_q (d : UInt8) (t : List UInt8) (h : d = 34 ∨ d = 92) : nx (92 :: d :: t) = (d, 2) := by rcases h with rfl | rfl <;> rfl
theorem nx_x (t : List UInt8) : nx (92 :: 120 :: t) = hx t := rfl
theorem nx_no (d : UInt8) (t : List UInt8) (h1 : d ≠ 110) (h2 : d ≠ 34) (h3 : d ≠ 92) (h4 : d ≠ 120) : nx (92 :: d :: t) = (0, 0) := by
  have hp : plain 92 = false := rfl
  simp [nx, hp, h1, h2, h3, h4]
theorem hx_short (t : List UInt8) (h : t.length < 2) : hx t = (0, 0) := by
  match t, h with
  | [], _ => rfl
  | [_], _ => rfl
theorem hx_two (x y : UInt8) (t : List UInt8) : hx (x :: y :: t) = if 0 ≤ hexv x ∧ 0 ≤ hexv y then (UInt8.ofNat (hexv x * 16 + hexv y).toNat, 4) else (0, 0) := rfl
theorem mid_length (l : List UInt8) : (mid l).length = l.length - 2 := by simp [mid]; omega
/-- the model's look-up of a figure is the figure's number -/
theorem byte_of (x y : UInt8) (h1 : 0 ≤ hexv x) (h2 : 0 ≤ hexv y) : ((UInt8.ofNat (hexv x * 16 + hexv y).toNat).toNat : Int) = hexv x * 16 + hexv y := by
  have := hexv_le x; have := hexv_le y
  rw [UInt8.toNat_ofNat']; omega
end Go.Proofs.Ytkdilgmlabaehaa.Qm
