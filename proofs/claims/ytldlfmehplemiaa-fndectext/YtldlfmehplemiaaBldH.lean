/- A builder that holds bytes: WriteByte. -/
import Derived.Test.YtldlfmehplemiaaBldT
import Derived.RangeFuncFrom
namespace Go.Proofs.Ytldlfmehplemiaa
open Go.RowKit

/-- the builder in block k holds these bytes -/
abbrev THolds (B k : Nat) (acc : List UInt8) (w : World) : Prop := Lib.IsBuilderF 46 5 B k (Lib.byteCells acc) w
theorem tByte (B k : Nat) (acc : List UInt8) (c : UInt8) (n : Int) (hn : n = c.toNat) (w : World) (h : THolds B k acc w) (hlen : acc.length ≤ 100000000) (hBw : B ≤ w.heap.size) :
    Calls Try.prog 25 #[.pointer (some ⟨k, 0, none⟩), .int .u8 n] w fun e w' => e = .returned .nilIface ∧ THolds B k (acc ++ [c]) w' ∧ Below B w w' ∧ Lib.OthersKept 5 (some k) w w' := by
  refine (bWriteByte B k _ n w h (by rw [Lib.byteCells_length]; omega) hBw).mono fun _ _ ⟨e, h1, h2, h3⟩ => ⟨e, ?_, h2, h3⟩
  subst hn
  unfold THolds
  rw [Lib.byteCells_append]; exact h1
theorem tHolds_own {B k : Nat} {acc : List UInt8} {W W' : World} {row : Option Nat} (h : THolds B k acc W) (hg : W.grownBy W' row) (hr : ∀ r, row = some r → ∃ o : Obj, W.heap[r]? = some o ∧ o.isCells = false) : THolds B k acc W' := by
  have stay : ∀ (j : Nat) (c : Array Value) (T : TypeId) (fz : Nat × Nat), W.heap[j]? = some (.cells c T fz) → W'.heap[j]? = some (.cells c T fz) := by
    intro j c T fz hj
    rw [hg.block j (Array.getElem?_eq_some_iff.1 hj).1 ?_]
    · exact hj
    · intro e
      obtain ⟨o, ho, hc⟩ := hr j e.symm
      rw [hj] at ho
      cases ho
      simp [Obj.isCells] at hc
  have key : ∀ p, Lib.BuilderAtF 46 5 B k p (Lib.byteCells acc) W → Lib.BuilderAtF 46 5 B k p (Lib.byteCells acc) W' := by
    rintro p ⟨h1, v, h2, ⟨h3, h4⟩, h5⟩
    refine ⟨h1, v, stay _ _ _ _ h2, ⟨h3, ?_⟩, h5⟩
    rcases h4 with h4 | ⟨g, cap, cur, fz, e1, e2, e3, e4⟩
    · exact .inl h4
    · exact .inr ⟨g, cap, cur, fz, e1, e2, stay _ _ _ _ e3, e4⟩
  rcases h with h | h
  · exact .inl (key _ h)
  · exact .inr (key _ h)
end Go.Proofs.Ytldlfmehplemiaa
