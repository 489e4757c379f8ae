/- Papers: a list of papers as it lies in memory; the argument of a law opened; the laws' own measure. -/
import Derived.Test.YtkdilgmlabaehaaProg
import Derived.WalkKit
import Derived.Below
import Derived.Lib.SmallJoins
import Derived.Deep.Slices
import Derived.OpenShut
namespace Go.Proofs.Ytkdilgmlabaehaa
open Go.RowKit Go.Deep Go.ChangeShapes Go.WideShapes
/-- so many papers lie where a slice says: names and texts by their places -/
def PIn (w : World) (a : Option Addr) (n : Nat) (nm tx : Nat → ByteArray) : Prop :=
  n = 0 ∨ ∃ b o, a = some ⟨b, o, none⟩ ∧ ∀ i, i < n → w.cell? ⟨b, o + i * 2, none⟩ = some (.string (nm i)) ∧ w.cell? ⟨b, o + i * 2 + 1, none⟩ = some (.string (tx i))
theorem PIn.grow {w w' : World} {a : Option Addr} {n : Nat} {nm tx : Nat → ByteArray} (h : PIn w a n nm tx) (hb : Below w.heap.size w w') : PIn w' a n nm tx := by
  rcases h with h | ⟨b, o, e, h⟩
  · exact .inl h
  · exact .inr ⟨b, o, e, fun i hi => ⟨(hb.cell (p := ⟨b, o + i * 2, none⟩) (World.block_lt_of_cell? w _ (h i hi).1)).trans (h i hi).1, (hb.cell (p := ⟨b, o + i * 2 + 1, none⟩) (World.block_lt_of_cell? w _ (h i hi).2)).trans (h i hi).2⟩⟩
theorem PIn.at {w : World} {a : Option Addr} {n : Nat} {nm tx : Nat → ByteArray} (h : PIn w a n nm tx) {i : Nat} (hi : i < n) : ∃ b o, a = some ⟨b, o, none⟩ ∧ ∀ i, i < n → w.cell? ⟨b, o + i * 2, none⟩ = some (.string (nm i)) ∧ w.cell? ⟨b, o + i * 2 + 1, none⟩ = some (.string (tx i)) := by
  rcases h with h | h
  · omega
  · exact h
/-- no name and no text is longer than texts can be -/
abbrev PShort (n : Nat) (nm tx : Nat → ByteArray) : Prop := ∀ i, i < n → (nm i).size ≤ maxLen ∧ (tx i).size ≤ maxLen
section
variable {H : Type} {enc : TypeId × Value → H} {W : World} {base : Nat} {spare : Nat → Bool} {held : Bool}
theorem cellsPap : Try.prog.cellsOf 52 = 2 := by kernel_rfl
theorem cellsStrP : Try.prog.cellsOf 9 = 1 := by kernel_rfl
theorem list2p {α : Type} {cs : List α} (h : cs.length = 2) : ∃ c0 c1, cs = [c0, c1] := by
  match cs, h with
  | [c0, c1], _ => exact ⟨c0, c1, rfl⟩
theorem open_paper {fuel : Nat} {cs : List Value} {x : DataW H × List MemPlace} (h : DataW.trod enc Try.prog W base spare held fuel 52 cs = some x) :
    ∃ (s t : ByteArray), cs = [.string s, .string t] ∧ s.size ≤ maxLen ∧ t.size ≤ maxLen := by
  obtain ⟨xs, n, rfl, _, hl, hxs, hf⟩ := DataW.trod_struct Try.underlying52 h
  rw [cellsPap] at hl
  obtain ⟨c0, c1, rfl⟩ := list2p hl
  obtain ⟨y0, y1, rfl⟩ := list2p (show xs.length = 2 from hxs)
  have h0 := hf 0 _ rfl
  have h1 := hf 1 _ rfl
  simp [cellsStrP] at h0 h1
  obtain ⟨m, e0, _, w0⟩ := DataW.trod_string Try.underlying9 h0
  obtain ⟨e, e1, _, w1⟩ := DataW.trod_string Try.underlying9 h1
  simp at e0 e1
  subst e0 e1
  exact ⟨m, e, rfl, w0, w1⟩
theorem add_noneP (b o i : Nat) : Addr.add ⟨b, o, none⟩ i = ⟨b, o + i, none⟩ := by
  by_cases hi0 : i = 0
  · subst hi0; simp [Addr.add]
  · simp [Addr.add, hi0]
theorem open_papers_cells (fuel : Nat) (cs : List Value) (x : DataW H × List MemPlace) (h : DataW.trod enc Try.prog W base spare held fuel 29 cs = some x) :
    ∃ (a : Option Addr) (n cap : Nat) (nm tx : Nat → ByteArray), cs = [.slice a n cap] ∧ PIn W a n nm tx ∧ n ≤ cap ∧ cap ≤ maxLen ∧ PShort n nm tx := by
  rcases DataW.trod_slice Try.underlying29 h with ⟨rfl, _⟩ | ⟨a, len, cap, elems, rest, n, rfl, rfl, _, _, hl, hm, hlen, hel, _⟩
  · exact ⟨none, 0, 0, fun _ => ⟨#[]⟩, fun _ => ⟨#[]⟩, rfl, .inl rfl, Nat.le_refl _, by unfold maxLen; omega, fun i h => absurd h (Nat.not_lt_zero _)⟩
  rw [cellsPap] at hel
  have key : ∀ i, ∃ (s t : ByteArray), i < len → (s.size ≤ maxLen ∧ t.size ≤ maxLen) ∧ (∀ j, j < 2 → W.cell? (a.add (i * 2 + j)) = ([.string s, .string t] : List Value)[j]?) := by
    intro i
    by_cases hi : i < len
    · have he := hel i hi
      rw [List.getElem?_eq_getElem (by omega)] at he
      obtain ⟨cs', h1, h2⟩ := Option.bind_eq_some_iff.1 he
      obtain ⟨s, t, rfl, hs, ht⟩ := open_paper h2
      obtain ⟨_, _, hc⟩ := World.cells?_some h1
      refine ⟨s, t, fun _ => ⟨⟨hs, ht⟩, fun j hj => ?_⟩⟩
      rw [← add_add]
      exact hc j hj
    · exact ⟨⟨#[]⟩, ⟨#[]⟩, fun h => absurd h hi⟩
  have key2 : ∃ nm : Nat → ByteArray, ∀ i, ∃ t : ByteArray, i < len → ((nm i).size ≤ maxLen ∧ t.size ≤ maxLen) ∧ (∀ j, j < 2 → W.cell? (a.add (i * 2 + j)) = ([.string (nm i), .string t] : List Value)[j]?) := Classical.skolem.1 key
  obtain ⟨nm, key3⟩ := key2
  obtain ⟨tx, hk⟩ : ∃ tx : Nat → ByteArray, ∀ i, i < len → ((nm i).size ≤ maxLen ∧ (tx i).size ≤ maxLen) ∧ (∀ j, j < 2 → W.cell? (a.add (i * 2 + j)) = ([.string (nm i), .string (tx i)] : List Value)[j]?) := Classical.skolem.1 key3
  refine ⟨some a, len, cap, nm, tx, rfl, ?_, hl, hm, fun i hi => (hk i hi).1⟩
  by_cases h0 : len = 0
  · exact .inl h0
  obtain ⟨b, o, spot⟩ := a
  have hspot : spot = none := by
    have := World.cell?_spot ((hk 0 (by omega)).2 0 (by omega))
    simpa [Addr.add] using this
  subst hspot
  refine .inr ⟨b, o, rfl, fun i hi => ?_⟩
  have c0 := (hk i hi).2 0 (by omega)
  have c1 := (hk i hi).2 1 (by omega)
  simp only [add_noneP] at c0 c1
  exact ⟨c0, c1⟩
/-- a list of papers that comes in, opened -/
theorem open_papers {r : Reach} {b0 : Nat} {v : Value} {d : DataW H} {p : List MemPlace} (hv : Value.okWide Try.prog W r b0 29 v) (h : DataW.Trod enc Try.prog W base spare held 29 v d p) :
    ∃ (a : Option Addr) (n cap : Nat) (nm tx : Nat → ByteArray), v = .slice a n cap ∧ PIn W a n nm tx ∧ n ≤ cap ∧ cap ≤ maxLen ∧ PShort n nm tx := by
  obtain ⟨a, len, cap, rfl⟩ := okWide_slice Try.underlying29 hv
  obtain ⟨fuel, hf⟩ := h
  obtain ⟨a', n', c', nm, tx, hv, h1, h2, h3, h4⟩ := open_papers_cells fuel _ _ hf
  simp [Value.cells] at hv
  obtain ⟨rfl, rfl, rfl⟩ := hv
  exact ⟨_, _, _, nm, tx, rfl, h1, h2, h3, h4⟩
end
end Go.Proofs.Ytkdilgmlabaehaa
