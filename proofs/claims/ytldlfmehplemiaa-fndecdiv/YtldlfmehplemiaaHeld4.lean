/- What is held of the world while four decimals lie in memory and calls are made, in whatever order. -/
import Derived.Test.YtldlfmehplemiaaHeld
import Derived.Test.YtldlfmehplemiaaDecC
namespace Go.Proofs.Ytldlfmehplemiaa
open Go.RowKit

/-- four decimals lie in their blocks, and nothing that was there in W0 has turned -/
def Held4 (W0 : World) (a b c d : Nat) (m x n y p u q v : Int) (w' : World) : Prop :=
  w'.cell? ⟨a, 0, none⟩ = some (.int .i64 m) ∧ w'.cell? ⟨a, 1, none⟩ = some (.int .i64 x) ∧ w'.cell? ⟨b, 0, none⟩ = some (.int .i64 n) ∧ w'.cell? ⟨b, 1, none⟩ = some (.int .i64 y) ∧ w'.cell? ⟨c, 0, none⟩ = some (.int .i64 p) ∧ w'.cell? ⟨c, 1, none⟩ = some (.int .i64 u) ∧ w'.cell? ⟨d, 0, none⟩ = some (.int .i64 q) ∧ w'.cell? ⟨d, 1, none⟩ = some (.int .i64 v) ∧ Below W0.heap.size W0 w'
theorem Held4.below {W0 W w1 : World} {a b c d : Nat} {m x n y p u q v : Int} (h : Held4 W0 a b c d m x n y p u q v W) (hb : Below W.heap.size W w1) : Held4 W0 a b c d m x n y p u q v w1 := by
  obtain ⟨h1, h2, h3, h4, h5, h6, h7, h8, h9⟩ := h
  have := hb.size
  have := h9.size
  exact ⟨(hb.cell (p := ⟨a, 0, none⟩) (lt_of_cell h1)).trans h1, (hb.cell (p := ⟨a, 1, none⟩) (lt_of_cell h2)).trans h2, (hb.cell (p := ⟨b, 0, none⟩) (lt_of_cell h3)).trans h3, (hb.cell (p := ⟨b, 1, none⟩) (lt_of_cell h4)).trans h4,
    (hb.cell (p := ⟨c, 0, none⟩) (lt_of_cell h5)).trans h5, (hb.cell (p := ⟨c, 1, none⟩) (lt_of_cell h6)).trans h6, (hb.cell (p := ⟨d, 0, none⟩) (lt_of_cell h7)).trans h7, (hb.cell (p := ⟨d, 1, none⟩) (lt_of_cell h8)).trans h8, h9.trans (hb.mono (by omega))⟩
theorem Held4.drew {W0 W : World} {a b c d : Nat} {m x n y p u q v : Int} (h : Held4 W0 a b c d m x n y p u q v W) : Held4 W0 a b c d m x n y p u q v W.drew := h.below ((Below.refl _ _).drew)
theorem Held4.start {W : World} {a b c d : Nat} {m x n y p u q v : Int} (h1 : Two W a m x) (h2 : Two W b n y) (h3 : Two W c p u) (h4 : Two W d q v) : Held4 W a b c d m x n y p u q v W :=
  ⟨h1.1, h1.2.1, h2.1, h2.2.1, h3.1, h3.2.1, h4.1, h4.2.1, Below.refl _ _⟩
theorem Held4.set {W0 W : World} {a b c d : Nat} {m x n y p u q v : Int} (h : Held4 W0 a b c d m x n y p u q v W) (ha : a < W0.heap.size) (hb : b < W0.heap.size) (hc : c < W0.heap.size) (hd : d < W0.heap.size) {k : Nat} (hk : W0.heap.size ≤ k) (s t : Value) : Held4 W0 a b c d m x n y p u q v ((W.setCell ⟨k, 0, none⟩ s).setCell ⟨k, 1, none⟩ t) := by
  have z : Below W0.heap.size W ((W.setCell ⟨k, 0, none⟩ s).setCell ⟨k, 1, none⟩ t) := ((Below.refl _ W).setCell (p := ⟨k, 0, none⟩) hk s).setCell (p := ⟨k, 1, none⟩) hk t
  obtain ⟨h1, h2, h3, h4, h5, h6, h7, h8, h9⟩ := h
  exact ⟨(z.cell (p := ⟨a, 0, none⟩) ha).trans h1, (z.cell (p := ⟨a, 1, none⟩) ha).trans h2, (z.cell (p := ⟨b, 0, none⟩) hb).trans h3, (z.cell (p := ⟨b, 1, none⟩) hb).trans h4,
    (z.cell (p := ⟨c, 0, none⟩) hc).trans h5, (z.cell (p := ⟨c, 1, none⟩) hc).trans h6, (z.cell (p := ⟨d, 0, none⟩) hd).trans h7, (z.cell (p := ⟨d, 1, none⟩) hd).trans h8, h9.trans z⟩
end Go.Proofs.Ytldlfmehplemiaa
