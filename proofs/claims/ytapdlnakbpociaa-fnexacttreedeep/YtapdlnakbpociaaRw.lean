/- A block's cells, that may be written, as a list of values. -/
import Derived.Test.YtapdlnakbpociaaFoD
namespace Go.Proofs.Ytapdlnakbpociaa
open Go.RowKit
attribute [local go_sem] cell_alloc_is frozen_alloc_is
/-- block b has these cells at its beginning, and they may be written -/
def Row (w : World) (b : Nat) (vs : List Value) : Prop := ∀ i v, vs[i]? = some v → w.cell? ⟨b, i, none⟩ = some v ∧ w.frozen? ⟨b, i, none⟩ = false
theorem Row.new (w : World) (vs : List Value) (T : TypeId) : Row (w.alloc (.cells vs.toArray T)) w.heap.size vs := by
  intro i v hi
  refine ⟨?_, by simp⟩
  rw [World.cell?_alloc_new]
  simpa using hi
theorem Row.lt {w : World} {b : Nat} {v : Value} {vs : List Value} (h : Row w b (v :: vs)) : b < w.heap.size := World.block_lt_of_cell? w _ (h 0 v rfl).1
theorem Row.below {B : Nat} {w w' : World} {b : Nat} {vs : List Value} (h : Row w b vs) (hb : Below B w w') (hB : b < B) : Row w' b vs := fun i v hi =>
  ⟨(hb.cell (p := ⟨b, i, none⟩) hB).trans (h i v hi).1, (hb.frozen (p := ⟨b, i, none⟩) hB).trans (h i v hi).2⟩
theorem Row.setOther {w : World} {b : Nat} {vs : List Value} (h : Row w b vs) {j : Nat} (hj : ¬ b = j) (o : Nat) (u : Value) : Row (w.setCell ⟨j, o, none⟩ u) b vs := fun i v hi =>
  ⟨(World.cell?_setCell_other _ _ _ _ (fun e => hj (by simpa using congrArg Addr.block e.symm))).trans (h i v hi).1, by simpa using (h i v hi).2⟩
theorem Row.set {w : World} {b : Nat} {vs : List Value} (h : Row w b vs) {i : Nat} (hi : i < vs.length) (u : Value) : Row (w.setCell ⟨b, i, none⟩ u) b (vs.set i u) := by
  intro j v hj
  rw [List.getElem?_set] at hj
  by_cases e : i = j
  · subst e
    rw [if_pos rfl, if_pos hi] at hj
    cases hj
    have h0 := h i (vs[i]) (List.getElem?_eq_getElem hi)
    exact ⟨set_near ⟨_, h0.1⟩, by simpa using h0.2⟩
  · rw [if_neg e] at hj
    have h0 := h j v hj
    exact ⟨(set_far e).trans h0.1, by simpa using h0.2⟩
/-- cells o, o + 1 .. are written one behind the other -/
def putN (w : World) (b o : Nat) : List Value → World
  | [] => w
  | v :: t => putN (w.setCell ⟨b, o, none⟩ v) b (o + 1) t
theorem putN_other {b b' o' : Nat} : ∀ {vs : List Value} {w : World} {o : Nat}, (¬ b' = b ∨ o' < o ∨ o + vs.length ≤ o') → (putN w b o vs).cell? ⟨b', o', none⟩ = w.cell? ⟨b', o', none⟩ := by
  intro vs
  induction vs with
  | nil => intro w o _; rfl
  | cons v t ih =>
    intro w o h
    have hl : (v :: t).length = t.length + 1 := rfl
    show (putN (w.setCell ⟨b, o, none⟩ v) b (o + 1) t).cell? _ = _
    rw [ih (by omega)]
    exact World.cell?_setCell_other _ _ _ _ (fun e => by simp at e; omega)
theorem putN_cell {b : Nat} : ∀ {vs : List Value} {w : World} {o i : Nat} {v : Value}, (∀ q, q < vs.length → ∃ u, w.cell? ⟨b, o + q, none⟩ = some u) → vs[i]? = some v → (putN w b o vs).cell? ⟨b, o + i, none⟩ = some v := by
  intro vs
  induction vs with
  | nil => intro w o i v _ h; cases h
  | cons x t ih =>
    intro w o i v hc h
    have hl : (x :: t).length = t.length + 1 := rfl
    show (putN (w.setCell ⟨b, o, none⟩ x) b (o + 1) t).cell? _ = _
    cases i with
    | zero =>
      simp at h
      subst h
      rw [putN_other (.inr (.inl (by omega)))]
      obtain ⟨u, hu⟩ := hc 0 (by omega)
      exact set_near ⟨u, hu⟩
    | succ i =>
      rw [show o + (i + 1) = o + 1 + i by omega]
      refine ih (fun q hq => ?_) (by simpa using h)
      obtain ⟨u, hu⟩ := hc (q + 1) (by omega)
      rw [show o + 1 + q = o + (q + 1) by omega]
      exact set_is ⟨u, hu⟩
theorem putN_size {b : Nat} : ∀ {vs : List Value} {w : World} {o : Nat}, (putN w b o vs).heap.size = w.heap.size := by
  intro vs
  induction vs with
  | nil => intro w o; rfl
  | cons v t ih => intro w o; show (putN (w.setCell ⟨b, o, none⟩ v) b (o + 1) t).heap.size = _; rw [ih]; simp [World.setCell]
theorem putN_below {B b : Nat} {a : World} (hb : B ≤ b) : ∀ {vs : List Value} {w : World} {o : Nat}, Below B a w → Below B a (putN w b o vs) := by
  intro vs
  induction vs with
  | nil => intro w o h; exact h
  | cons v t ih => intro w o h; exact ih (h.setCell (p := ⟨b, o, none⟩) hb _)
theorem putN_frozen {b : Nat} (p : Addr) : ∀ {vs : List Value} {w : World} {o : Nat}, (putN w b o vs).frozen? p = w.frozen? p := by
  intro vs
  induction vs with
  | nil => intro w o; rfl
  | cons v t ih => intro w o; show (putN (w.setCell ⟨b, o, none⟩ v) b (o + 1) t).frozen? p = _; rw [ih]; simp
/-- block nb has so many cells, and they may be written -/
def RoomN (w : World) (nb n : Nat) : Prop := ∀ o, o < n → (∃ v, w.cell? ⟨nb, o, none⟩ = some v) ∧ w.frozen? ⟨nb, o, none⟩ = false
theorem RoomN.grow {w w' : World} {nb n : Nat} (h : RoomN w nb n) (hb : Below w.heap.size w w') : RoomN w' nb n := by
  intro o ho
  obtain ⟨⟨v, h1⟩, h2⟩ := h o ho
  have hl := World.block_lt_of_cell? w _ h1
  exact ⟨⟨v, (hb.cell (p := ⟨nb, o, none⟩) hl).trans h1⟩, (hb.frozen (p := ⟨nb, o, none⟩) hl).trans h2⟩
theorem RoomN.set {w : World} {nb n : Nat} (h : RoomN w nb n) (b o : Nat) (v : Value) : RoomN (w.setCell ⟨b, o, none⟩ v) nb n := by
  intro o' ho
  obtain ⟨h1, h2⟩ := h o' ho
  refine ⟨?_, by simpa using h2⟩
  obtain ⟨u, hu⟩ := h1
  exact cell?_setCell_some hu
theorem RoomN.putN {nb n : Nat} {b : Nat} : ∀ {vs : List Value} {w : World} {o : Nat}, RoomN w nb n → RoomN (putN w b o vs) nb n := by
  intro vs
  induction vs with
  | nil => intro w o h; exact h
  | cons v t ih => intro w o h; exact ih (h.set b o v)
theorem roomN_new (w : World) (cs : Array Value) (T : TypeId) : RoomN (w.alloc (.cells cs T)) w.heap.size cs.size := by
  intro o ho
  refine ⟨⟨cs[o]'ho, ?_⟩, by simp⟩
  rw [World.cell?_alloc_new]
  simp [ho]
end Go.Proofs.Ytapdlnakbpociaa
