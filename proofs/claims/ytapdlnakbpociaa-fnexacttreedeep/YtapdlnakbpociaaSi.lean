/- Two trees that are the same, by the program: the region that makes the pair of places of two lists. -/
import Derived.Test.YtapdlnakbpociaaSh
import Derived.Test.YtapdlnakbpociaaSe
import Derived.Carry
import Derived.Laws.OwnMore
namespace Go.Proofs.Ytapdlnakbpociaa
open Go.RowKit
/-- four cells of a block, that may be written -/
def Four (w : World) (b : Nat) (v0 v1 v2 v3 : Value) : Prop := (w.cell? ⟨b, 0, none⟩ = some v0 ∧ w.cell? ⟨b, 1, none⟩ = some v1 ∧ w.cell? ⟨b, 2, none⟩ = some v2 ∧ w.cell? ⟨b, 3, none⟩ = some v3) ∧ (w.frozen? ⟨b, 0, none⟩ = false ∧ w.frozen? ⟨b, 1, none⟩ = false ∧ w.frozen? ⟨b, 2, none⟩ = false ∧ w.frozen? ⟨b, 3, none⟩ = false)
theorem Four.new (w : World) (v0 v1 v2 v3 : Value) (T : TypeId) : Four (w.alloc (.cells #[v0, v1, v2, v3] T)) w.heap.size v0 v1 v2 v3 := by
  refine ⟨⟨?_, ?_, ?_, ?_⟩, ?_, ?_, ?_, ?_⟩ <;> simp
theorem Four.lt {w : World} {b : Nat} {v0 v1 v2 v3 : Value} (h : Four w b v0 v1 v2 v3) : b < w.heap.size := World.block_lt_of_cell? w _ h.1.1
theorem Four.below {B : Nat} {w w' : World} {b : Nat} {v0 v1 v2 v3 : Value} (h : Four w b v0 v1 v2 v3) (hb : Below B w w') (hB : b < B) : Four w' b v0 v1 v2 v3 := by
  obtain ⟨⟨a0, a1, a2, a3⟩, f0, f1, f2, f3⟩ := h
  exact ⟨⟨(hb.cell (p := ⟨b, 0, none⟩) hB).trans a0, (hb.cell (p := ⟨b, 1, none⟩) hB).trans a1, (hb.cell (p := ⟨b, 2, none⟩) hB).trans a2, (hb.cell (p := ⟨b, 3, none⟩) hB).trans a3⟩, (hb.frozen (p := ⟨b, 0, none⟩) hB).trans f0, (hb.frozen (p := ⟨b, 1, none⟩) hB).trans f1, (hb.frozen (p := ⟨b, 2, none⟩) hB).trans f2, (hb.frozen (p := ⟨b, 3, none⟩) hB).trans f3⟩
theorem Four.drew {w : World} {b : Nat} {v0 v1 v2 v3 : Value} (h : Four w b v0 v1 v2 v3) : Four w.drew b v0 v1 v2 v3 := h.below ((Below.refl _ _).drew) h.lt
theorem len_or {w : World} {F : Fo} {a : Option Addr} (h : F.In w a) : F.len = 0 ∨ ∃ b o, a = some ⟨b, o, none⟩ := by
  rcases h with rfl | ⟨b, o, e, _⟩
  · exact .inl rfl
  · exact .inr ⟨b, o, e⟩
/-- a pair in its box -/
abbrev Ten (pb : Nat) (xk : Int) (xt : ByteArray) (xm xe : Int) (sx : Value) (yk : Int) (yt : ByteArray) (ym ye : Int) (sy : Value) (w : World) : Prop :=
  (w.cell? ⟨pb, 0, none⟩ = some (.int .i64 xk) ∧ w.cell? ⟨pb, 1, none⟩ = some (.string xt) ∧ w.cell? ⟨pb, 2, none⟩ = some (.int .i64 xm) ∧ w.cell? ⟨pb, 3, none⟩ = some (.int .i64 xe) ∧ w.cell? ⟨pb, 4, none⟩ = some sx) ∧
  (w.cell? ⟨pb, 5, none⟩ = some (.int .i64 yk) ∧ w.cell? ⟨pb, 6, none⟩ = some (.string yt) ∧ w.cell? ⟨pb, 7, none⟩ = some (.int .i64 ym) ∧ w.cell? ⟨pb, 8, none⟩ = some (.int .i64 ye) ∧ w.cell? ⟨pb, 9, none⟩ = some sy)
theorem Ten.same {w w' : World} {pb : Nat} {xk : Int} {xt : ByteArray} {xm xe : Int} {sx : Value} {yk : Int} {yt : ByteArray} {ym ye : Int} {sy : Value} (h : Ten pb xk xt xm xe sx yk yt ym ye sy w) (hb : w'.heap[pb]? = w.heap[pb]?) : Ten pb xk xt xm xe sx yk yt ym ye sy w' := by
  have c : ∀ o, w'.cell? ⟨pb, o, none⟩ = w.cell? ⟨pb, o, none⟩ := fun o => World.cell?_of_block (a := ⟨pb, o, none⟩) hb
  obtain ⟨⟨a0, a1, a2, a3, a4⟩, a5, a6, a7, a8, a9⟩ := h
  exact ⟨⟨(c 0).trans a0, (c 1).trans a1, (c 2).trans a2, (c 3).trans a3, (c 4).trans a4⟩, (c 5).trans a5, (c 6).trans a6, (c 7).trans a7, (c 8).trans a8, (c 9).trans a9⟩
theorem Ten.lt {w : World} {pb : Nat} {xk : Int} {xt : ByteArray} {xm xe : Int} {sx : Value} {yk : Int} {yt : ByteArray} {ym ye : Int} {sy : Value} (h : Ten pb xk xt xm xe sx yk yt ym ye sy w) : pb < w.heap.size := World.block_lt_of_cell? _ _ h.1.1
/-- a pair in its box, and nothing old changed -/
abbrev HeldA (W : World) (pb : Nat) (xk : Int) (xt : ByteArray) (xm xe : Int) (sx : Value) (yk : Int) (yt : ByteArray) (ym ye : Int) (sy : Value) (w : World) : Prop :=
  Ten pb xk xt xm xe sx yk yt ym ye sy w ∧ Below W.heap.size W w
end Go.Proofs.Ytapdlnakbpociaa
