/- Two trees that are the same, by the program: the row of pairs that are to be done. -/
import Derived.Test.YtdedccgebeidjaaSc
import Derived.Test.YtdedccgebeidjaaKr
import Derived.Carry
import Derived.Laws.OwnMore
namespace Go.Proofs.Ytdedccgebeidjaa
open Go.RowKit
theorem sameHead_method (v : Value) (W : World) : (method 244 32 v "loop.example/chancery/impl.sameHead").run Try.prog W = .ok (114, v) W := by kernel_rfl
theorem pcells_length (S : List It2) : (S.flatMap pcells).length = S.length * 10 := by
  induction S with
  | nil => rfl
  | cons p t ih => rw [List.flatMap_cons, List.length_append, ih, List.length_cons]; show 10 + _ = _; omega
/-- the last pair of a row, in its cells -/
theorem row_last {w : World} {base g cap : Nat} {S : List It2} {p : It2} (h : w.ownsRow base 86 10 (.slice (some ⟨g, 0, none⟩) (S.length + 1) cap) (S.length + 1) ((S ++ [p]).flatMap pcells)) (q : Nat) (hq : q < 10) :
    w.cell? ⟨g, S.length * 10 + q, none⟩ = (pcells p)[q]? := by
  rw [h.cellAt (S.length * 10 + q) (by omega), List.flatMap_append, List.getElem?_append_right (by rw [pcells_length]; omega), pcells_length]
  rw [show S.length * 10 + q - S.length * 10 = q by omega]
  simp
/-- the row without its last -/
theorem row_pop {w : World} {base g cap : Nat} {S : List It2} {p : It2} (h : w.ownsRow base 86 10 (.slice (some ⟨g, 0, none⟩) (S.length + 1) cap) (S.length + 1) ((S ++ [p]).flatMap pcells)) :
    w.ownsRow base 86 10 (.slice (some ⟨g, 0, none⟩) S.length cap) S.length (S.flatMap pcells) := by
  refine ⟨pcells_length S, ?_⟩
  rcases h.2 with ⟨h', _⟩ | ⟨g', cap', cur, h', h2, h3, h4, h5, h6, h7⟩
  · cases h'
  · simp only [Value.slice.injEq, Option.some.injEq, Addr.mk.injEq, and_true, true_and] at h'
    obtain ⟨rfl, rfl⟩ := h'
    refine .inr ⟨g, cap, cur, rfl, h2, h3, by omega, h5, h6, ?_⟩
    have h8 : (cur.toList.take ((S.length + 1) * 10)).take (S.length * 10) = S.flatMap pcells := by
      rw [h7, List.flatMap_append, ← pcells_length S, List.take_left]
    rw [List.take_take, Nat.min_eq_left (by omega)] at h8
    exact h8
end Go.Proofs.Ytdedccgebeidjaa
