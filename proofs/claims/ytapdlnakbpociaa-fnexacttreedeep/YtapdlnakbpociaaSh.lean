/- Two trees that are the same, by the program: the region that counts a pair of lists. -/
import Derived.Test.YtapdlnakbpociaaSg
import Derived.Deep.RegionHeld3
namespace Go.Proofs.Ytapdlnakbpociaa
open Go.RowKit
/-- four cells of a block -/
abbrev FourC (b : Nat) (v0 v1 v2 v3 : Value) (w : World) : Prop := w.cell? ⟨b, 0, none⟩ = some v0 ∧ w.cell? ⟨b, 1, none⟩ = some v1 ∧ w.cell? ⟨b, 2, none⟩ = some v2 ∧ w.cell? ⟨b, 3, none⟩ = some v3
theorem FourC.grown {w w' : World} {r : Option Nat} (h : w.grownBy w' r) {b : Nat} {v0 v1 v2 v3 : Value} (hn : some b ≠ r) (f : FourC b v0 v1 v2 v3 w) : FourC b v0 v1 v2 v3 w' := by
  have hb : b < w.heap.size := World.block_lt_of_cell? _ _ f.1
  exact ⟨(grown_cell h 0 hb hn).trans f.1, (grown_cell h 1 hb hn).trans f.2.1, (grown_cell h 2 hb hn).trans f.2.2.1, (grown_cell h 3 hb hn).trans f.2.2.2⟩
theorem PlOk.grown {w w' : World} {p : Pl} {mb clock : Nat} {es : Array MapEntry} (h : PlOk w p) (hg : w.grownBy w' (some mb)) (hm : w.heap[mb]? = some (.map es clock)) : PlOk w' p := by
  rcases h with h | ⟨a, cs, t, h1, h2⟩
  · exact .inl h
  · refine .inr ⟨a, cs, t, h1, (hg.block _ (Array.getElem?_eq_some_iff.1 h2).1 (fun e => ?_)).trans h2⟩
    have e' := Option.some.inj e
    rw [e', hm] at h2
    cases h2
theorem grown_trans {a b c : World} {r : Option Nat} (h : a.grownBy b r) (k : b.grownBy c r) : a.grownBy c r := ⟨k.os.trans h.os, k.tape.trans h.tape, k.output.trans h.output, Nat.le_trans h.size k.size, fun i hi hn => (k.block i (Nat.lt_of_lt_of_le hi h.size) hn).trans (h.block i hi hn)⟩
end Go.Proofs.Ytapdlnakbpociaa
