/- Two values that are the same, by the program: the row of pairs that are to be done. -/
import Derived.Test.YtohldacplapjkaaWc
import Derived.Carry
import Derived.Laws.OwnMore
namespace Go.Proofs.Ytohldacplapjkaa
open Go.RowKit
theorem pcells_lengthV (S : List It2V) : (S.flatMap pcellsV).length = S.length * 12 := by
  induction S with
  | nil => rfl
  | cons p t ih => rw [List.flatMap_cons, List.length_append, ih, List.length_cons]; show 12 + _ = _; omega
/-- the last pair of a row, in its cells -/
theorem row_lastV {w : World} {base g cap : Nat} {S : List It2V} {p : It2V} (h : w.ownsRow base 62 12 (.slice (some ⟨g, 0, none⟩) (S.length + 1) cap) (S.length + 1) ((S ++ [p]).flatMap pcellsV)) (q : Nat) (hq : q < 12) :
    w.cell? ⟨g, S.length * 12 + q, none⟩ = (pcellsV p)[q]? := by
  rw [h.cellAt (S.length * 12 + q) (by omega), List.flatMap_append, List.getElem?_append_right (by rw [pcells_lengthV]; omega), pcells_lengthV]
  rw [show S.length * 12 + q - S.length * 12 = q by omega]
  simp
/-- the row without its last -/
theorem row_popV {w : World} {base g cap : Nat} {S : List It2V} {p : It2V} (h : w.ownsRow base 62 12 (.slice (some ⟨g, 0, none⟩) (S.length + 1) cap) (S.length + 1) ((S ++ [p]).flatMap pcellsV)) :
    w.ownsRow base 62 12 (.slice (some ⟨g, 0, none⟩) S.length cap) S.length (S.flatMap pcellsV) := by
  refine ⟨pcells_lengthV S, ?_⟩
  rcases h.2 with ⟨h', _⟩ | ⟨g', cap', cur, h', h2, h3, h4, h5, h6, h7⟩
  · cases h'
  · simp only [Value.slice.injEq, Option.some.injEq, Addr.mk.injEq, and_true, true_and] at h'
    obtain ⟨rfl, rfl⟩ := h'
    refine .inr ⟨g, cap, cur, rfl, h2, h3, by omega, h5, h6, ?_⟩
    have h8 : (cur.toList.take ((S.length + 1) * 12)).take (S.length * 12) = S.flatMap pcellsV := by
      rw [h7, List.flatMap_append, ← pcells_lengthV S, List.take_left]
    rw [List.take_take, Nat.min_eq_left (by omega)] at h8
    exact h8
end Go.Proofs.Ytohldacplapjkaa
