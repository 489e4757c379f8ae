/- What is held of the world while 5 decimals lie in memory and calls are made, in whatever order. -/
import Derived.Test.YthpnbjigpdgmpaaHeld
import Derived.Test.YthpnbjigpdgmpaaDecC
namespace Go.Proofs.Ythpnbjigpdgmpaa
open Go.RowKit
/-- 5 decimals lie in their blocks, and nothing that was there in W0 has turned -/
def Held5 (W0 : World) (b0 b1 b2 b3 b4 : Nat) (m0 x0 m1 x1 m2 x2 m3 x3 m4 x4 : Int) (w' : World) : Prop :=
  w'.cell? ⟨b0, 0, none⟩ = some (.int .i64 m0) ∧ w'.cell? ⟨b0, 1, none⟩ = some (.int .i64 x0) ∧ w'.cell? ⟨b1, 0, none⟩ = some (.int .i64 m1) ∧ w'.cell? ⟨b1, 1, none⟩ = some (.int .i64 x1) ∧ w'.cell? ⟨b2, 0, none⟩ = some (.int .i64 m2) ∧ w'.cell? ⟨b2, 1, none⟩ = some (.int .i64 x2) ∧ w'.cell? ⟨b3, 0, none⟩ = some (.int .i64 m3) ∧ w'.cell? ⟨b3, 1, none⟩ = some (.int .i64 x3) ∧ w'.cell? ⟨b4, 0, none⟩ = some (.int .i64 m4) ∧ w'.cell? ⟨b4, 1, none⟩ = some (.int .i64 x4) ∧ Below W0.heap.size W0 w'
theorem Held5.below {W0 W w1 : World} {b0 b1 b2 b3 b4 : Nat} {m0 x0 m1 x1 m2 x2 m3 x3 m4 x4 : Int} (h : Held5 W0 b0 b1 b2 b3 b4 m0 x0 m1 x1 m2 x2 m3 x3 m4 x4 W) (hb : Below W.heap.size W w1) : Held5 W0 b0 b1 b2 b3 b4 m0 x0 m1 x1 m2 x2 m3 x3 m4 x4 w1 := by
  obtain ⟨h0, k0, h1, k1, h2, k2, h3, k3, h4, k4, hz⟩ := h
  have := hb.size
  have := hz.size
  exact ⟨(hb.cell (p := ⟨b0, 0, none⟩) (lt_of_cell h0)).trans h0, (hb.cell (p := ⟨b0, 1, none⟩) (lt_of_cell k0)).trans k0, (hb.cell (p := ⟨b1, 0, none⟩) (lt_of_cell h1)).trans h1, (hb.cell (p := ⟨b1, 1, none⟩) (lt_of_cell k1)).trans k1, (hb.cell (p := ⟨b2, 0, none⟩) (lt_of_cell h2)).trans h2, (hb.cell (p := ⟨b2, 1, none⟩) (lt_of_cell k2)).trans k2, (hb.cell (p := ⟨b3, 0, none⟩) (lt_of_cell h3)).trans h3, (hb.cell (p := ⟨b3, 1, none⟩) (lt_of_cell k3)).trans k3, (hb.cell (p := ⟨b4, 0, none⟩) (lt_of_cell h4)).trans h4, (hb.cell (p := ⟨b4, 1, none⟩) (lt_of_cell k4)).trans k4, hz.trans (hb.mono (by omega))⟩
theorem Held5.drew {W0 W : World} {b0 b1 b2 b3 b4 : Nat} {m0 x0 m1 x1 m2 x2 m3 x3 m4 x4 : Int} (h : Held5 W0 b0 b1 b2 b3 b4 m0 x0 m1 x1 m2 x2 m3 x3 m4 x4 W) : Held5 W0 b0 b1 b2 b3 b4 m0 x0 m1 x1 m2 x2 m3 x3 m4 x4 W.drew := h.below ((Below.refl _ _).drew)
theorem Held5.start {W : World} {b0 b1 b2 b3 b4 : Nat} {m0 x0 m1 x1 m2 x2 m3 x3 m4 x4 : Int} (t0 : Two W b0 m0 x0) (t1 : Two W b1 m1 x1) (t2 : Two W b2 m2 x2) (t3 : Two W b3 m3 x3) (t4 : Two W b4 m4 x4) : Held5 W b0 b1 b2 b3 b4 m0 x0 m1 x1 m2 x2 m3 x3 m4 x4 W :=
  ⟨t0.1, t0.2.1, t1.1, t1.2.1, t2.1, t2.2.1, t3.1, t3.2.1, t4.1, t4.2.1, Below.refl _ _⟩
end Go.Proofs.Ythpnbjigpdgmpaa
