/- Plain mathematics of texts between quotes. -/
import Derived.Test.YtkdilgmlabaehaaQm
namespace Go.Proofs.Ytkdilgmlabaehaa.Qm
def plain (c : Int) : Bool := decide (32 ≤ c) && decide (c ≤ 126) && decide (c ≠ 34) && decide (c ≠ 92)
def hexs : List UInt8 := [48, 49, 50, 51, 52, 53, 54, 55, 56, 57, 97, 98, 99, 100, 101, 102]
def hexd (n : Nat) : UInt8 := hexs.getD n 0
def esc (b : UInt8) : List UInt8 :=
  if plain b.toNat then [b] else if b = 10 then [92, 110] else if b = 34 ∨ b = 92 then [92, b] else [92, 120, hexd (b.toNat / 16), hexd (b.toNat % 16)]
def quote (l : List UInt8) : List UInt8 := 34 :: (l.flatMap esc ++ [34])
theorem esc_length (b : UInt8) : 1 ≤ (esc b).length ∧ (esc b).length ≤ 4 := by
  unfold esc; split
  · simp
  · split
    · simp
    · split <;> simp
theorem flat_length (l : List UInt8) : (l.flatMap esc).length ≤ 4 * l.length := by
  induction l with
  | nil => simp
  | cons c t ih => have := esc_length c; simp only [List.flatMap_cons, List.length_append, List.length_cons]; omega
theorem flat_take (s : ByteArray) (k : Nat) (h : k < s.size) : (s.data.toList.take (k + 1)).flatMap esc = (s.data.toList.take k).flatMap esc ++ esc s[k] := by
  rw [List.take_succ_eq_append_getElem (by simpa using h), List.flatMap_append, List.flatMap_singleton]; rfl
end Go.Proofs.Ytkdilgmlabaehaa.Qm
