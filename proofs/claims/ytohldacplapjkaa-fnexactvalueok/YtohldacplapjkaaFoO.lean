/- Trees: what is read as a tree, or as a list of trees, is one: the argument of a law opened. -/
import Derived.Test.YtohldacplapjkaaFo
import Derived.Deep.Slices
import Derived.OpenShut
namespace Go.Proofs.Ytohldacplapjkaa
open Go.RowKit Go.Deep Go.ChangeShapes Go.WideShapes
/-- all heads in it are such -/
def Fo.All (P : Int → ByteArray → Int → Int → Prop) : Fo → Prop
  | .nil => True
  | .cons k t m e _ _ kids next => P k t m e ∧ kids.All P ∧ next.All P
abbrev I64 (n : Int) : Prop := (Lit.int .i64 n).wf = true
/-- numbers that are numbers, texts that are no longer than texts can be -/
abbrev HeadOk (k : Int) (t : ByteArray) (m e : Int) : Prop := I64 k ∧ t.size ≤ maxLen ∧ I64 m ∧ I64 e
section
variable {H : Type} {enc : TypeId × Value → H} {W : World} {base : Nat} {spare : Nat → Bool} {held : Bool}
theorem cellsDec : Try.prog.cellsOf 23 = 2 := by kernel_rfl
theorem cellsInt : Try.prog.cellsOf 3 = 1 := by kernel_rfl
theorem cellsStr : Try.prog.cellsOf 9 = 1 := by kernel_rfl
theorem list5 {α : Type} {cs : List α} (h : cs.length = 5) : ∃ c0 c1 c2 c3 c4, cs = [c0, c1, c2, c3, c4] := by
  match cs, h with
  | [c0, c1, c2, c3, c4], _ => exact ⟨c0, c1, c2, c3, c4, rfl⟩
theorem list4 {α : Type} {cs : List α} (h : cs.length = 4) : ∃ c0 c1 c2 c3, cs = [c0, c1, c2, c3] := by
  match cs, h with
  | [c0, c1, c2, c3], _ => exact ⟨c0, c1, c2, c3, rfl⟩
theorem list2 {α : Type} {cs : List α} (h : cs.length = 2) : ∃ c0 c1, cs = [c0, c1] := by
  match cs, h with
  | [c0, c1], _ => exact ⟨c0, c1, rfl⟩
theorem open_dec {fuel : Nat} {cs : List Value} {x : DataW H × List MemPlace} (h : DataW.trod enc Try.prog W base spare held fuel 23 cs = some x) :
    ∃ (m e : Int), cs = [.int .i64 m, .int .i64 e] ∧ I64 m ∧ I64 e := by
  obtain ⟨xs, n, rfl, _, hl, hxs, hf⟩ := DataW.trod_struct Try.underlying23 h
  rw [cellsDec] at hl
  obtain ⟨c0, c1, rfl⟩ := list2 hl
  obtain ⟨y0, y1, rfl⟩ := list2 (show xs.length = 2 from hxs)
  have h0 := hf 0 _ rfl
  have h1 := hf 1 _ rfl
  simp [cellsInt] at h0 h1
  obtain ⟨m, e0, _, w0⟩ := DataW.trod_int Try.underlying3 h0
  obtain ⟨e, e1, _, w1⟩ := DataW.trod_int Try.underlying3 h1
  simp at e0 e1
  subst e0 e1
  exact ⟨m, e, rfl, w0, w1⟩
theorem add_none (b o i : Nat) : Addr.add ⟨b, o, none⟩ i = ⟨b, o + i, none⟩ := by
  by_cases hi0 : i = 0
  · subst hi0; simp [Addr.add]
  · simp [Addr.add, hi0]
end
end Go.Proofs.Ytohldacplapjkaa
