/- What is held of the world while two decimals that lie in memory are handed on to calls, in whatever order. -/
import Derived.Test.YtldlfmehplemiaaDecB
import Derived.Deep.RegionHeld3
import Derived.Deep.DeepCutAuto
namespace Go.Proofs.Ytldlfmehplemiaa
open Go.RowKit

/-- two decimals lie in blocks b and d, and nothing that was there in W0 has turned -/
def Held (W0 : World) (b d : Nat) (m x n y : Int) (w' : World) : Prop :=
  w'.cell? ⟨b, 0, none⟩ = some (.int .i64 m) ∧ w'.cell? ⟨b, 1, none⟩ = some (.int .i64 x) ∧ w'.cell? ⟨d, 0, none⟩ = some (.int .i64 n) ∧ w'.cell? ⟨d, 1, none⟩ = some (.int .i64 y) ∧ Below W0.heap.size W0 w'
theorem lt_of_cell {W : World} {b o : Nat} {v : Value} (h : W.cell? ⟨b, o, none⟩ = some v) : b < W.heap.size := World.block_lt_of_cell? W _ h
theorem Held.below {W0 W w1 : World} {b d : Nat} {m x n y : Int} (h : Held W0 b d m x n y W) (hb : Below W.heap.size W w1) : Held W0 b d m x n y w1 := by
  obtain ⟨h1, h2, h3, h4, h6⟩ := h
  have := hb.size
  have := h6.size
  have b0 := lt_of_cell h1
  have d0 := lt_of_cell h3
  exact ⟨(hb.cell (p := ⟨b, 0, none⟩) b0).trans h1, (hb.cell (p := ⟨b, 1, none⟩) b0).trans h2, (hb.cell (p := ⟨d, 0, none⟩) d0).trans h3, (hb.cell (p := ⟨d, 1, none⟩) d0).trans h4, h6.trans (hb.mono (by omega))⟩
theorem Held.alloc {W0 W : World} {b d : Nat} {m x n y : Int} (h : Held W0 b d m x n y W) (o : Obj) : Held W0 b d m x n y (W.alloc o) := h.below ((Below.refl _ _).alloc (Nat.le_refl _) o)
theorem Held.drew {W0 W : World} {b d : Nat} {m x n y : Int} (h : Held W0 b d m x n y W) : Held W0 b d m x n y W.drew := h.below ((Below.refl _ _).drew)
theorem Held.start {W : World} {b d : Nat} {m x n y : Int} (h1 : W.cell? ⟨b, 0, none⟩ = some (.int .i64 m)) (h2 : W.cell? ⟨b, 1, none⟩ = some (.int .i64 x)) (h3 : W.cell? ⟨d, 0, none⟩ = some (.int .i64 n)) (h4 : W.cell? ⟨d, 1, none⟩ = some (.int .i64 y)) : Held W b d m x n y W :=
  ⟨h1, h2, h3, h4, Below.refl _ _⟩
theorem Held.set {W0 W : World} {b d : Nat} {m x n y : Int} (h : Held W0 b d m x n y W) (hb : b < W0.heap.size) (hd : d < W0.heap.size) {k : Nat} (hk : W0.heap.size ≤ k) (u v : Value) : Held W0 b d m x n y ((W.setCell ⟨k, 0, none⟩ u).setCell ⟨k, 1, none⟩ v) := by
  have q : Below W0.heap.size W ((W.setCell ⟨k, 0, none⟩ u).setCell ⟨k, 1, none⟩ v) := ((Below.refl _ W).setCell (p := ⟨k, 0, none⟩) hk u).setCell (p := ⟨k, 1, none⟩) hk v
  obtain ⟨h1, h2, h3, h4, h6⟩ := h
  exact ⟨(q.cell (p := ⟨b, 0, none⟩) hb).trans h1, (q.cell (p := ⟨b, 1, none⟩) hb).trans h2, (q.cell (p := ⟨d, 0, none⟩) hd).trans h3, (q.cell (p := ⟨d, 1, none⟩) hd).trans h4, h6.trans q⟩

/-- the same, but of blocks below k alone it is said that they have not turned -/
def HeldK (k : Nat) (W0 : World) (b d : Nat) (m x n y : Int) (w' : World) : Prop :=
  w'.cell? ⟨b, 0, none⟩ = some (.int .i64 m) ∧ w'.cell? ⟨b, 1, none⟩ = some (.int .i64 x) ∧ w'.cell? ⟨d, 0, none⟩ = some (.int .i64 n) ∧ w'.cell? ⟨d, 1, none⟩ = some (.int .i64 y) ∧ k ≤ w'.heap.size ∧ Below k W0 w'
theorem HeldK.below {k : Nat} {W0 W w1 : World} {b d : Nat} {m x n y : Int} (h : HeldK k W0 b d m x n y W) (hb : Below W.heap.size W w1) : HeldK k W0 b d m x n y w1 := by
  obtain ⟨h1, h2, h3, h4, h5, h6⟩ := h
  have := hb.size
  have b0 := lt_of_cell h1
  have d0 := lt_of_cell h3
  exact ⟨(hb.cell (p := ⟨b, 0, none⟩) b0).trans h1, (hb.cell (p := ⟨b, 1, none⟩) b0).trans h2, (hb.cell (p := ⟨d, 0, none⟩) d0).trans h3, (hb.cell (p := ⟨d, 1, none⟩) d0).trans h4, by omega, h6.trans (hb.mono (by omega))⟩
theorem HeldK.drew {k : Nat} {W0 W : World} {b d : Nat} {m x n y : Int} (h : HeldK k W0 b d m x n y W) : HeldK k W0 b d m x n y W.drew := h.below ((Below.refl _ _).drew)
theorem HeldK.start {k : Nat} {W : World} {b d : Nat} {m x n y : Int} (h1 : W.cell? ⟨b, 0, none⟩ = some (.int .i64 m)) (h2 : W.cell? ⟨b, 1, none⟩ = some (.int .i64 x)) (h3 : W.cell? ⟨d, 0, none⟩ = some (.int .i64 n)) (h4 : W.cell? ⟨d, 1, none⟩ = some (.int .i64 y)) (h5 : k ≤ W.heap.size) : HeldK k W b d m x n y W :=
  ⟨h1, h2, h3, h4, h5, Below.refl _ _⟩
theorem HeldK.set {k : Nat} {W0 W : World} {b d : Nat} {m x n y : Int} (h : HeldK k W0 b d m x n y W) (hb : b < k) (hd : d < k) {j : Nat} (hk : k ≤ j) (u v : Value) : HeldK k W0 b d m x n y ((W.setCell ⟨j, 0, none⟩ u).setCell ⟨j, 1, none⟩ v) := by
  have q : Below k W ((W.setCell ⟨j, 0, none⟩ u).setCell ⟨j, 1, none⟩ v) := ((Below.refl _ W).setCell (p := ⟨j, 0, none⟩) hk u).setCell (p := ⟨j, 1, none⟩) hk v
  obtain ⟨h1, h2, h3, h4, h5, h6⟩ := h
  have := q.size
  exact ⟨(q.cell (p := ⟨b, 0, none⟩) hb).trans h1, (q.cell (p := ⟨b, 1, none⟩) hb).trans h2, (q.cell (p := ⟨d, 0, none⟩) hd).trans h3, (q.cell (p := ⟨d, 1, none⟩) hd).trans h4, by omega, h6.trans q⟩
end Go.Proofs.Ytldlfmehplemiaa
