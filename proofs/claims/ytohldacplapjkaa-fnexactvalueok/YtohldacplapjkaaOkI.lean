/- The iterator over a tree and all below it. -/
import Derived.RangeFuncNested
import Derived.RangeFuncBound
import Derived.RangeFuncCalls
import Derived.RangeFuncLeaves
import Derived.RangeFuncFrom
import Derived.RangeFuncBox
import Derived.Shelf.Abstract
import Derived.Shelf.RegionOpen
import Derived.WalkKit
import Derived.OwnWalkIn
import Derived.TacticsInMore
import Derived.LoopNIn
import Derived.LoopIn
import Derived.Test.YtohldacplapjkaaOm
namespace Go.Proofs.Ytohldacplapjkaa
open Go.RowKit Go.Shelf
attribute [local go_sem] Oper.semAt_some

/-- the trees of a list and all below, each ahead of those below it, with how deep it stands -/
def Fo.flat : Fo → Nat → List (Nat × Int × ByteArray × Int × Int × Fo)
  | .nil, _ => []
  | .cons k t m e _ _ kids next, d => (d, k, t, m, e, kids) :: (kids.flat (d + 1) ++ next.flat d)
theorem Fo.flat_len : ∀ (F : Fo) (d : Nat), (F.flat d).length = F.size := by
  intro F
  induction F with
  | nil => intro d; rfl
  | cons k t m e a c kids next ih1 ih2 => intro d; show ((d, k, t, m, e, kids) :: (kids.flat (d + 1) ++ next.flat d)).length = kids.size + 1 + next.size; simp [ih1, ih2]; omega
/-- whatever lies in the one world lies in the other -/
def Sub (w W : World) : Prop := ∀ b o v, w.cell? ⟨b, o, none⟩ = some v → W.cell? ⟨b, o, none⟩ = some v
theorem Fo.from_sub {w w' : World} (h : Sub w w') : ∀ (F : Fo) (b o : Nat), F.From w b o → F.From w' b o := by
  intro F
  induction F with
  | nil => intro b o _; trivial
  | cons k t m e a c kids next ih1 ih2 =>
    rintro b o ⟨⟨h1, h2, h3, h4, h5⟩, hk, hc, hm, ht, hn⟩
    refine ⟨⟨h _ _ _ h1, h _ _ _ h2, h _ _ _ h3, h _ _ _ h4, h _ _ _ h5⟩, ?_, hc, hm, ht, ih2 _ _ hn⟩
    rcases hk with hk | ⟨b', o', e1, e2⟩
    · exact .inl hk
    · exact .inr ⟨b', o', e1, ih1 _ _ e2⟩
theorem Fo.In.sub {w w' : World} {F : Fo} {a : Option Addr} (hF : F.In w a) (h : Sub w w') : F.In w' a := by
  rcases hF with rfl | ⟨b, o, rfl, hF⟩
  · exact .inl rfl
  · exact .inr ⟨b, o, rfl, Fo.from_sub h F b o hF⟩
/-- what a round keeps: the cells that lay ahead of the caller, and those that were made since the loop began -/
def Kept (n0 n1 : Nat) (W W' : World) : Prop := W.heap.size ≤ W'.heap.size ∧ ∀ j o, W.heap[j]? = some o → o.isCells = true → (j < n0 ∨ n1 ≤ j) → W'.heap[j]? = some o
theorem Kept.refl (n0 n1 : Nat) (W : World) : Kept n0 n1 W W := ⟨Nat.le_refl _, fun _ _ h _ _ => h⟩
theorem Kept.trans {n0 n1 : Nat} {A B C : World} (h : Kept n0 n1 A B) (k : Kept n0 n1 B C) : Kept n0 n1 A C := ⟨Nat.le_trans h.1 k.1, fun j o ho hc hj => k.2 j o (h.2 j o ho hc hj) hc hj⟩
theorem Kept.of_below {n0 n1 : Nat} {W W' : World} (h : Below W.heap.size W W') : Kept n0 n1 W W' := ⟨h.size, fun j _ ho _ _ => (h.block j (Array.getElem?_eq_some_iff.1 ho).1).trans ho⟩
theorem cells_of_cell {W : World} {b o : Nat} {v : Value} (h : W.cell? ⟨b, o, none⟩ = some v) : ∃ x, W.heap[b]? = some x ∧ x.isCells = true := by
  have hlt := World.block_lt_of_cell? W _ h
  refine ⟨W.heap[b]'hlt, Array.getElem?_eq_getElem hlt, ?_⟩
  have hb : W.heap[b]? = some (W.heap[b]'hlt) := Array.getElem?_eq_getElem hlt
  unfold World.cell? at h
  rw [hb] at h
  cases hx : W.heap[b]'hlt <;> simp_all [Obj.isCells]
theorem Kept.cell {n0 n1 : Nat} {W W' : World} (h : Kept n0 n1 W W') {b o : Nat} {v : Value} (hv : W.cell? ⟨b, o, none⟩ = some v) (hb : b < n0 ∨ n1 ≤ b) : W'.cell? ⟨b, o, none⟩ = some v := by
  obtain ⟨x, hx, hc⟩ := cells_of_cell hv
  exact (World.cell?_of_block ((h.2 b x hx hc hb).trans hx.symm)).trans hv
theorem Kept.sub {n0 n1 : Nat} {w W W' : World} (h : Kept n0 n1 W W') (hs : Sub w W) (hn : w.heap.size ≤ n0) : Sub w W' := fun b o v hv =>
  h.cell (hs b o v hv) (.inl (Nat.lt_of_lt_of_le (World.block_lt_of_cell? w _ hv) hn))
theorem Sub.of_below {w W : World} (h : Below w.heap.size w W) : Sub w W := fun b o _ hv => (h.cell (p := ⟨b, o, none⟩) (World.block_lt_of_cell? w _ hv)).trans hv
/-- a tree that is told, with how deep it stands; what is below it lies in the world w -/
structure TI (w : World) where
  d : Nat
  k : Int
  t : ByteArray
  m : Int
  e : Int
  a : Option Addr
  kids : Fo
  c : Nat
  hin : kids.In w a
  hl : kids.len ≤ c
  hc : c ≤ maxLen
  ht : t.size ≤ maxLen
def TI.raw {w : World} (x : TI w) : Nat × Int × ByteArray × Int × Int × Fo := (x.d, x.k, x.t, x.m, x.e, x.kids)
def TI.enc {w : World} (x : TI w) : Array Value := #[.int .i64 x.d, .agg #[.int .i64 x.k, .string x.t, .int .i64 x.m, .int .i64 x.e, .slice x.a x.kids.len x.c]]

theorem room_none {F : Fence} (hd : F.depth = none) (k : Nat) : F.room k := fun d h => by rw [hd] at h; cases h
theorem roundIn_any {F : Fence} (hd : F.depth = none) {m m' : Nat} {P : Program} {l : Nat} {f : FuncId} {tmps : Array Value} {assign body : Code} {w : World} {R : Ending → World → Prop}
    (h : RoundIn F m P l f tmps assign body w R) : RoundIn F m' P l f tmps assign body w R := ⟨h.1, fun c cs _ => h.2 c cs (room_none hd _)⟩
theorem yieldAt_any {F : Fence} (hd : F.depth = none) {m : Nat} (m' : Nat) {P : Program} {l : Nat} {args : Array Value} {W : World} {R : Ending → World → Prop} (h : YieldAt F m P l args W R) : YieldAt F m' P l args W R := by
  obtain ⟨fn, tmps, assign, body, hy, hR⟩ := h
  exact ⟨fn, tmps, assign, body, hy, roundIn_any hd hR⟩
theorem grown_below {W W' : World} (h : Below W.heap.size W W') : W.grownBy W' none := ⟨h.os, h.tape, h.output, h.size, fun k hk _ => h.block k hk⟩

end Go.Proofs.Ytohldacplapjkaa
