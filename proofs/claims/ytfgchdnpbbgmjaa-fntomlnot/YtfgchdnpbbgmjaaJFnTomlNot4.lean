/- My own texts, joined: Fo FoC DecX FoD FoG Va Ua Uc Rw Vb Vd Mp Kp Qm Om OkI Sa. -/
import Derived.Test.YtfgchdnpbbgmjaaProg
import Derived.WalkKit
import Derived.Below
import Derived.Lib.SmallJoins
import Derived.Test.YtfgchdnpbbgmjaaJFnTomlNot0
import Derived.Laws.MakeOwn
import Derived.Deep.AppendLies
import Derived.Laws.OwnMore
import Derived.Maps.AppendAt
import Derived.Laws.Slices
import Derived.Deep.RegionHeld3
import Derived.WideMake
import Derived.Maps.Own
import Derived.RangeFuncRecord
import Derived.LaidEql
import Derived.Laws.StructEq
import Derived.WideKeyRuns
import Derived.RangeFuncNested
import Derived.RangeFuncBound
import Derived.RangeFuncCalls
import Derived.RangeFuncLeaves
import Derived.RangeFuncFrom
import Derived.RangeFuncBox
import Derived.Shelf.Abstract
import Derived.Shelf.RegionOpen
import Derived.OwnWalkIn
import Derived.TacticsInMore
import Derived.LoopNIn
import Derived.LoopIn
import Derived.Deep.DeepCutAuto
/- Trees: a list of trees as it lies in memory. Its first, what stands below the first, and the rest. -/
namespace Go.Proofs.Ytfgchdnpbbgmjaa
open Go.RowKit
/-- a list of trees: kind, text, number, where its own list lies (with length and capacity), that list, the rest -/
inductive Fo
  | nil
  | cons (kind : Int) (text : ByteArray) (man exp : Int) (at_ : Option Addr) (cap : Nat) (kids : Fo) (next : Fo)
def Fo.len : Fo → Nat
  | .nil => 0
  | .cons _ _ _ _ _ _ _ next => next.len + 1
def Fo.size : Fo → Nat
  | .nil => 0
  | .cons _ _ _ _ _ _ kids next => kids.size + 1 + next.size
def Fo.deep : Fo → Nat
  | .nil => 0
  | .cons _ _ _ _ _ _ kids next => max (kids.deep + 1) next.deep
/-- what the laws' own measure counts -/
def Fo.wt : Fo → Nat
  | .nil => 0
  | .cons _ t _ _ _ _ kids next => t.size + kids.wt + 1 + next.wt
theorem Fo.len_le (F : Fo) : F.len ≤ F.size := by
  induction F with
  | nil => exact Nat.le_refl _
  | cons k t m e a c kids next _ ih => show next.len + 1 ≤ kids.size + 1 + next.size; omega
theorem Fo.deep_le (F : Fo) : F.deep ≤ F.size := by
  induction F with
  | nil => exact Nat.le_refl _
  | cons k t m e a c kids next ih1 ih2 => show max (kids.deep + 1) next.deep ≤ kids.size + 1 + next.size; omega
/-- the list lies from cell o of block b on -/
def Fo.From (w : World) : Fo → Nat → Nat → Prop
  | .nil, _, _ => True
  | .cons k t m e a c kids next, b, o =>
    (w.cell? ⟨b, o, none⟩ = some (.int .i64 k) ∧ w.cell? ⟨b, o + 1, none⟩ = some (.string t) ∧ w.cell? ⟨b, o + 2, none⟩ = some (.int .i64 m) ∧ w.cell? ⟨b, o + 3, none⟩ = some (.int .i64 e) ∧ w.cell? ⟨b, o + 4, none⟩ = some (.slice a kids.len c)) ∧
    (kids = .nil ∨ ∃ b' o', a = some ⟨b', o', none⟩ ∧ kids.From w b' o') ∧ kids.len ≤ c ∧ c ≤ maxLen ∧ t.size ≤ maxLen ∧ next.From w b (o + 5)
/-- the list of a slice -/
def Fo.In (w : World) (F : Fo) (a : Option Addr) : Prop := F = .nil ∨ ∃ b o, a = some ⟨b, o, none⟩ ∧ F.From w b o
theorem Fo.from_below {B : Nat} {w w' : World} (h : Below B w w') : ∀ (F : Fo) (b o : Nat), F.From w b o → (∀ b' o' v, w.cell? ⟨b', o', none⟩ = some v → b' < B) → F.From w' b o := by
  intro F
  induction F with
  | nil => intro b o _ _; trivial
  | cons k t m e a c kids next ih1 ih2 =>
    rintro b o ⟨⟨h1, h2, h3, h4, h5⟩, hk, hc, hm, ht, hn⟩ hlt
    have hb : b < B := hlt _ _ _ h1
    refine ⟨⟨(h.cell (p := ⟨b, o, none⟩) hb).trans h1, (h.cell (p := ⟨b, o + 1, none⟩) hb).trans h2, (h.cell (p := ⟨b, o + 2, none⟩) hb).trans h3, (h.cell (p := ⟨b, o + 3, none⟩) hb).trans h4, (h.cell (p := ⟨b, o + 4, none⟩) hb).trans h5⟩, ?_, hc, hm, ht, ih2 _ _ hn hlt⟩
    rcases hk with hk | ⟨b', o', e1, e2⟩
    · exact .inl hk
    · exact .inr ⟨b', o', e1, ih1 _ _ e2 hlt⟩
theorem Fo.from_grow {w w' : World} (h : Below w.heap.size w w') (F : Fo) (b o : Nat) (hF : F.From w b o) : F.From w' b o :=
  Fo.from_below h F b o hF fun _ _ _ hc => World.block_lt_of_cell? w _ hc
theorem Fo.In.grow {w w' : World} {F : Fo} {a : Option Addr} (hF : F.In w a) (h : Below w.heap.size w w') : F.In w' a := by
  rcases hF with rfl | ⟨b, o, rfl, hF⟩
  · exact .inl rfl
  · exact .inr ⟨b, o, rfl, Fo.from_grow h F b o hF⟩
end Go.Proofs.Ytfgchdnpbbgmjaa
/- Trees: two lists of trees that are alike; a list that is being copied, element by element, into one new block. -/
namespace Go.Proofs.Ytfgchdnpbbgmjaa
open Go.RowKit
/-- the same but for where they lie -/
def Fo.alike : Fo → Fo → Prop
  | .nil, .nil => True
  | .cons k t m e _ _ kids next, .cons k' t' m' e' _ _ kids' next' => (k = k' ∧ t = t' ∧ m = m' ∧ e = e') ∧ kids.alike kids' ∧ next.alike next'
  | _, _ => False
theorem Fo.alike_nil {F : Fo} (h : F.alike .nil) : F = .nil := by cases F with
  | nil => rfl
  | cons => exact h.elim
theorem Fo.alike_cons {F : Fo} {k : Int} {t : ByteArray} {m e : Int} {a : Option Addr} {c : Nat} {kids next : Fo} (h : F.alike (.cons k t m e a c kids next)) : ∃ a' c' kids' next', F = .cons k t m e a' c' kids' next' ∧ kids'.alike kids ∧ next'.alike next := by
  cases F with
  | nil => exact h.elim
  | cons k' t' m' e' a' c' kids' next' =>
    obtain ⟨⟨rfl, rfl, rfl, rfl⟩, h1, h2⟩ := h
    exact ⟨a', c', kids', next', rfl, h1, h2⟩
/-- the lists below lie in such blocks only -/
def Fo.Blk (P : Nat → Prop) : Fo → Prop
  | .nil => True
  | .cons _ _ _ _ a _ kids next => (kids = .nil ∨ ∃ b' o', a = some ⟨b', o', none⟩ ∧ P b') ∧ kids.Blk P ∧ next.Blk P
theorem Fo.Blk.mono {P Q : Nat → Prop} (h : ∀ b, P b → Q b) : ∀ {F : Fo}, F.Blk P → F.Blk Q := by
  intro F
  induction F with
  | nil => exact fun _ => trivial
  | cons k t m e a c kids next ih1 ih2 =>
    rintro ⟨h0, h1, h2⟩
    refine ⟨?_, ih1 h1, ih2 h2⟩
    rcases h0 with h0 | ⟨b', o', e1, e2⟩
    · exact .inl h0
    · exact .inr ⟨b', o', e1, h _ e2⟩
/-- in a world that holds the same in those blocks the list lies as it did -/
theorem Fo.from_agree {P : Nat → Prop} {w w' : World} (h : ∀ b o v, P b → w.cell? ⟨b, o, none⟩ = some v → w'.cell? ⟨b, o, none⟩ = some v) : ∀ (F : Fo) (b o : Nat), P b → F.Blk P → F.From w b o → F.From w' b o := by
  intro F
  induction F with
  | nil => intro b o _ _ _; trivial
  | cons k t m e a c kids next ih1 ih2 =>
    rintro b o hb ⟨h0, hb1, hb2⟩ ⟨⟨h1, h2, h3, h4, h5⟩, hk, hc, hm, ht, hn⟩
    refine ⟨⟨h _ _ _ hb h1, h _ _ _ hb h2, h _ _ _ hb h3, h _ _ _ hb h4, h _ _ _ hb h5⟩, ?_, hc, hm, ht, ih2 _ _ hb hb2 hn⟩
    rcases hk with hk | ⟨b', o', e1, e2⟩
    · exact .inl hk
    · rcases h0 with h0 | ⟨b'', o'', e3, e4⟩
      · exact .inl h0
      · rw [e1] at e3
        have e5 : b' = b'' := by simpa using congrArg (Option.map Addr.block) e3
        subst e5
        exact .inr ⟨b', o', e1, ih1 _ _ e4 hb1 e2⟩
/-- from cell o of block nb on lies a tree like this one -/
def Cop (P : Nat → Prop) (w : World) (nb o : Nat) (k : Int) (t : ByteArray) (m e : Int) (kids : Fo) : Prop :=
  ∃ (a' : Option Addr) (c' : Nat) (kids' : Fo), (w.cell? ⟨nb, o, none⟩ = some (.int .i64 k) ∧ w.cell? ⟨nb, o + 1, none⟩ = some (.string t) ∧ w.cell? ⟨nb, o + 2, none⟩ = some (.int .i64 m) ∧ w.cell? ⟨nb, o + 3, none⟩ = some (.int .i64 e) ∧ w.cell? ⟨nb, o + 4, none⟩ = some (.slice a' kids'.len c')) ∧
    (kids' = .nil ∨ ∃ b' o', a' = some ⟨b', o', none⟩ ∧ P b' ∧ kids'.From w b' o') ∧ kids'.Blk P ∧ kids'.alike kids ∧ kids'.len ≤ c' ∧ c' ≤ maxLen ∧ t.size ≤ maxLen
theorem Cop.agree {P : Nat → Prop} {w w' : World} {nb o : Nat} {k : Int} {t : ByteArray} {m e : Int} {kids : Fo} (h : Cop P w nb o k t m e kids) (hP : ∀ b o v, P b → w.cell? ⟨b, o, none⟩ = some v → w'.cell? ⟨b, o, none⟩ = some v)
    (hnb : ∀ q v, q < 5 → w.cell? ⟨nb, o + q, none⟩ = some v → w'.cell? ⟨nb, o + q, none⟩ = some v) : Cop P w' nb o k t m e kids := by
  obtain ⟨a', c', kids', ⟨h1, h2, h3, h4, h5⟩, hk, hr⟩ := h
  refine ⟨a', c', kids', ⟨hnb 0 _ (by omega) h1, hnb 1 _ (by omega) h2, hnb 2 _ (by omega) h3, hnb 3 _ (by omega) h4, hnb 4 _ (by omega) h5⟩, ?_, hr⟩
  rcases hk with hk | ⟨b', o', e1, e2, e3⟩
  · exact .inl hk
  · exact .inr ⟨b', o', e1, e2, Fo.from_agree hP kids' b' o' e2 hr.1 e3⟩
/-- the first j of a list are copied -/
def Pre (P : Nat → Prop) (w : World) (nb : Nat) : Fo → Nat → Nat → Prop
  | _, _, 0 => True
  | .nil, _, _ + 1 => True
  | .cons k t m e _ _ kids next, o, j + 1 => Cop P w nb o k t m e kids ∧ Pre P w nb next (o + 5) j
theorem Pre.agree {P : Nat → Prop} {w w' : World} {nb : Nat} (hP : ∀ b o v, P b → w.cell? ⟨b, o, none⟩ = some v → w'.cell? ⟨b, o, none⟩ = some v) :
    ∀ (F : Fo) (o j : Nat), (∀ o' v, o' < o + 5 * j → w.cell? ⟨nb, o', none⟩ = some v → w'.cell? ⟨nb, o', none⟩ = some v) → Pre P w nb F o j → Pre P w' nb F o j := by
  intro F
  induction F with
  | nil => intro o j _ _; cases j <;> trivial
  | cons k t m e a c kids next _ ih =>
    intro o j hnb h
    cases j with
    | zero => trivial
    | succ j =>
      obtain ⟨h1, h2⟩ := h
      exact ⟨h1.agree hP (fun q v hq => hnb _ v (by omega)), ih _ _ (fun o' v ho => hnb o' v (by omega)) h2⟩
def Fo.drop : Fo → Nat → Fo
  | F, 0 => F
  | .nil, _ + 1 => .nil
  | .cons _ _ _ _ _ _ _ next, j + 1 => next.drop j
/-- all are copied: there lies a list like it -/
theorem Pre.done {P : Nat → Prop} {w : World} {nb : Nat} : ∀ (F : Fo) (o j : Nat), F.len ≤ j → Pre P w nb F o j → ∃ F' : Fo, F'.alike F ∧ F'.Blk P ∧ F'.From w nb o := by
  intro F
  induction F with
  | nil => intro o j _ _; exact ⟨.nil, trivial, trivial, trivial⟩
  | cons k t m e a c kids next _ ih =>
    intro o j hj h
    have hj' : next.len + 1 ≤ j := hj
    obtain ⟨j, rfl⟩ : ∃ i, j = i + 1 := ⟨j - 1, by omega⟩
    obtain ⟨⟨a', c', kids', hcells, hk, hB, hA, hl, hm, ht⟩, h2⟩ := h
    obtain ⟨next', hA2, hB2, hF2⟩ := ih (o + 5) j (by omega) h2
    refine ⟨.cons k t m e a' c' kids' next', ⟨⟨rfl, rfl, rfl, rfl⟩, hA, hA2⟩, ⟨?_, hB, hB2⟩, hcells, ?_, hl, hm, ht, hF2⟩
    · rcases hk with hk | ⟨b', o', e1, e2, _⟩
      · exact .inl hk
      · exact .inr ⟨b', o', e1, e2⟩
    · rcases hk with hk | ⟨b', o', e1, _, e3⟩
      · exact .inl hk
      · exact .inr ⟨b', o', e1, e3⟩
end Go.Proofs.Ytfgchdnpbbgmjaa
/- Contracts of what the exact laws alone call: toDec, eqDec. -/
namespace Go.Proofs.Ytfgchdnpbbgmjaa
open Go.RowKit

end Go.Proofs.Ytfgchdnpbbgmjaa
/- Contracts over trees: the laws' own copy of a tree. -/
namespace Go.Proofs.Ytfgchdnpbbgmjaa
open Go.RowKit
/-- block nb has cells for n trees, and they may be written -/
def Room (w : World) (nb n : Nat) : Prop := ∀ o, o < n * 5 → (∃ v, w.cell? ⟨nb, o, none⟩ = some v) ∧ w.frozen? ⟨nb, o, none⟩ = false
theorem Room.grow {w w' : World} {nb n : Nat} (h : Room w nb n) (hb : Below w.heap.size w w') : Room w' nb n := by
  intro o ho
  obtain ⟨⟨v, h1⟩, h2⟩ := h o ho
  have hl := World.block_lt_of_cell? w _ h1
  exact ⟨⟨v, (hb.cell (p := ⟨nb, o, none⟩) hl).trans h1⟩, (hb.frozen (p := ⟨nb, o, none⟩) hl).trans h2⟩
theorem set_is {w : World} {b o o' : Nat} {v : Value} (h : ∃ u, w.cell? ⟨b, o', none⟩ = some u) : ∃ u, (w.setCell ⟨b, o, none⟩ v).cell? ⟨b, o', none⟩ = some u := by
  obtain ⟨u, hu⟩ := h
  exact cell?_setCell_some hu
theorem set_far {w : World} {b o o' : Nat} {v : Value} (h : o ≠ o') : (w.setCell ⟨b, o, none⟩ v).cell? ⟨b, o', none⟩ = w.cell? ⟨b, o', none⟩ := World.cell?_setCell_other _ _ _ _ (fun e => h (by simpa using congrArg Addr.off e))
theorem set_near {w : World} {b o : Nat} {v : Value} (h : ∃ u, w.cell? ⟨b, o, none⟩ = some u) : (w.setCell ⟨b, o, none⟩ v).cell? ⟨b, o, none⟩ = some v := by
  obtain ⟨u, hu⟩ := h
  exact World.cell?_setCell_same w _ v hu
/-- five cells of a block, that may be written -/
def Five (w : World) (b : Nat) (v0 v1 v2 v3 v4 : Value) : Prop := (w.cell? ⟨b, 0, none⟩ = some v0 ∧ w.cell? ⟨b, 1, none⟩ = some v1 ∧ w.cell? ⟨b, 2, none⟩ = some v2 ∧ w.cell? ⟨b, 3, none⟩ = some v3 ∧ w.cell? ⟨b, 4, none⟩ = some v4) ∧ (w.frozen? ⟨b, 0, none⟩ = false ∧ w.frozen? ⟨b, 1, none⟩ = false ∧ w.frozen? ⟨b, 2, none⟩ = false ∧ w.frozen? ⟨b, 3, none⟩ = false ∧ w.frozen? ⟨b, 4, none⟩ = false)
theorem Five.new (w : World) (v0 v1 v2 v3 v4 : Value) (T : TypeId) : Five (w.alloc (.cells #[v0, v1, v2, v3, v4] T)) w.heap.size v0 v1 v2 v3 v4 := by
  refine ⟨⟨?_, ?_, ?_, ?_, ?_⟩, ?_, ?_, ?_, ?_, ?_⟩ <;> simp
theorem Five.lt {w : World} {b : Nat} {v0 v1 v2 v3 v4 : Value} (h : Five w b v0 v1 v2 v3 v4) : b < w.heap.size := World.block_lt_of_cell? w _ h.1.1
theorem Five.below {B : Nat} {w w' : World} {b : Nat} {v0 v1 v2 v3 v4 : Value} (h : Five w b v0 v1 v2 v3 v4) (hb : Below B w w') (hB : b < B) : Five w' b v0 v1 v2 v3 v4 := by
  obtain ⟨⟨a0, a1, a2, a3, a4⟩, f0, f1, f2, f3, f4⟩ := h
  exact ⟨⟨(hb.cell (p := ⟨b, 0, none⟩) hB).trans a0, (hb.cell (p := ⟨b, 1, none⟩) hB).trans a1, (hb.cell (p := ⟨b, 2, none⟩) hB).trans a2, (hb.cell (p := ⟨b, 3, none⟩) hB).trans a3, (hb.cell (p := ⟨b, 4, none⟩) hB).trans a4⟩, (hb.frozen (p := ⟨b, 0, none⟩) hB).trans f0, (hb.frozen (p := ⟨b, 1, none⟩) hB).trans f1, (hb.frozen (p := ⟨b, 2, none⟩) hB).trans f2, (hb.frozen (p := ⟨b, 3, none⟩) hB).trans f3, (hb.frozen (p := ⟨b, 4, none⟩) hB).trans f4⟩

theorem Five.setOther {w : World} {b : Nat} {v0 v1 v2 v3 v4 : Value} (h : Five w b v0 v1 v2 v3 v4) {j : Nat} (hj : ¬ b = j) (o : Nat) (u : Value) : Five (w.setCell ⟨j, o, none⟩ u) b v0 v1 v2 v3 v4 := by
  obtain ⟨⟨a0, a1, a2, a3, a4⟩, f0, f1, f2, f3, f4⟩ := h
  have far : ∀ o', (w.setCell ⟨j, o, none⟩ u).cell? ⟨b, o', none⟩ = w.cell? ⟨b, o', none⟩ := fun o' => World.cell?_setCell_other _ _ _ _ (fun e => hj (by simpa using congrArg Addr.block e.symm))
  exact ⟨⟨(far 0).trans a0, (far 1).trans a1, (far 2).trans a2, (far 3).trans a3, (far 4).trans a4⟩, by simpa using f0, by simpa using f1, by simpa using f2, by simpa using f3, by simpa using f4⟩
end Go.Proofs.Ytfgchdnpbbgmjaa
/- Contracts over trees: the laws' own copy of a tree lies in cells that were never shared with a text (no part of a block is frozen). -/
namespace Go.Proofs.Ytfgchdnpbbgmjaa
open Go.RowKit
attribute [local go_sem] cell_alloc_is frozen_alloc_is
/-- from a block on all blocks are cells, none of them frozen -/
def Clean (n : Nat) (w : World) : Prop := ∀ b o, n ≤ b → w.heap[b]? = some o → ∃ cs t, o = .cells cs t (0, 0)
theorem Clean.refl (w : World) : Clean w.heap.size w := fun b o h ho => absurd (Array.getElem?_eq_some_iff.1 ho).1 (by omega)
theorem Clean.alloc {n : Nat} {w : World} (h : Clean n w) (cs : Array Value) (t : TypeId) : Clean n (w.alloc (.cells cs t)) := by
  intro b o hb ho
  have e : (w.heap.push (.cells cs t))[b]? = some o := ho
  rw [Array.getElem?_push] at e
  split at e
  · cases e; exact ⟨cs, t, rfl⟩
  · exact h b o hb e
theorem Clean.setCell {n : Nat} {w : World} (h : Clean n w) (p : Addr) (v : Value) : Clean n (w.setCell p v) := by
  intro b o hb ho
  by_cases e : b = p.block
  · subst e
    unfold World.setCell at ho
    simp only [Array.getElem?_modify, if_true] at ho
    obtain ⟨o', h1, h2⟩ := Option.map_eq_some_iff.1 ho
    obtain ⟨cs, t, rfl⟩ := h _ o' hb h1
    exact ⟨_, _, h2.symm⟩
  · rw [Below.heap_setCell _ _ _ _ e] at ho
    exact h b o hb ho
theorem Clean.trans {n : Nat} {w w' : World} (h : Clean n w) (hb : Below w.heap.size w w') (h' : Clean w.heap.size w') : Clean n w' := by
  intro b o hn ho
  by_cases hlt : b < w.heap.size
  · rw [hb.block b hlt] at ho; exact h b o hn ho
  · exact h' b o (by omega) ho
end Go.Proofs.Ytfgchdnpbbgmjaa
/- Values: a list of values as it lies in memory. Its first, what stands in the first, and the rest. -/
namespace Go.Proofs.Ytfgchdnpbbgmjaa
open Go.RowKit
/-- texts one behind the other -/
def SFrom (w : World) : List ByteArray → Nat → Nat → Prop
  | [], _, _ => True
  | s :: t, b, o => w.cell? ⟨b, o, none⟩ = some (.string s) ∧ s.size ≤ maxLen ∧ SFrom w t b (o + 1)
/-- the texts of a slice -/
def SIn (w : World) (ss : List ByteArray) (a : Option Addr) : Prop := ss = [] ∨ ∃ b o, a = some ⟨b, o, none⟩ ∧ SFrom w ss b o
theorem SFrom.grow {w w' : World} (h : Below w.heap.size w w') : ∀ {ss : List ByteArray} {b o : Nat}, SFrom w ss b o → SFrom w' ss b o := by
  intro ss
  induction ss with
  | nil => intro b o _; trivial
  | cons s t ih =>
    rintro b o ⟨h1, h2, h3⟩
    exact ⟨(h.cell (p := ⟨b, o, none⟩) (World.block_lt_of_cell? w _ h1)).trans h1, h2, ih h3⟩
theorem SIn.grow {w w' : World} {ss : List ByteArray} {a : Option Addr} (hs : SIn w ss a) (h : Below w.heap.size w w') : SIn w' ss a := by
  rcases hs with rfl | ⟨b, o, rfl, hs⟩
  · exact .inl rfl
  · exact .inr ⟨b, o, rfl, hs.grow h⟩
theorem SFrom.agree {P : Nat → Prop} {w w' : World} (h : ∀ b o v, P b → w.cell? ⟨b, o, none⟩ = some v → w'.cell? ⟨b, o, none⟩ = some v) : ∀ {ss : List ByteArray} {b o : Nat}, P b → SFrom w ss b o → SFrom w' ss b o := by
  intro ss
  induction ss with
  | nil => intro b o _ _; trivial
  | cons s t ih =>
    rintro b o hb ⟨h1, h2, h3⟩
    exact ⟨h _ _ _ hb h1, h2, ih hb h3⟩
theorem SFrom.at {w : World} : ∀ {ss : List ByteArray} {b o i : Nat} {s : ByteArray}, SFrom w ss b o → ss[i]? = some s → w.cell? ⟨b, o + i, none⟩ = some (.string s) ∧ s.size ≤ maxLen := by
  intro ss
  induction ss with
  | nil => intro b o i s _ h; cases h
  | cons x t ih =>
    rintro b o i s ⟨h1, h2, h3⟩ h
    cases i with
    | zero => simp at h; subst h; exact ⟨h1, h2⟩
    | succ i =>
      have := ih h3 (show t[i]? = some s by simpa using h)
      rw [show o + 1 + i = o + (i + 1) by omega] at this
      exact this
theorem SFrom.of {w : World} : ∀ {ss : List ByteArray} {b o : Nat}, (∀ i s, ss[i]? = some s → w.cell? ⟨b, o + i, none⟩ = some (.string s) ∧ s.size ≤ maxLen) → SFrom w ss b o := by
  intro ss
  induction ss with
  | nil => intro b o _; trivial
  | cons x t ih =>
    intro b o h
    have h0 := h 0 x rfl
    refine ⟨h0.1, h0.2, ih fun i s hi => ?_⟩
    have := h (i + 1) s (by simpa using hi)
    rw [show o + (i + 1) = o + 1 + i by omega] at this
    exact this
/-- how much the laws' measure counts of texts -/
def sWt : List ByteArray → Nat
  | [] => 0
  | s :: t => s.size + 1 + sWt t
/-- a value but for what is in it: kind, number, text, names with where they lie -/
structure Hd where
  k : Int
  m : Int
  e : Int
  t : ByteArray
  na : Option Addr
  nc : Nat
  ns : List ByteArray
/-- the same but for where names lie -/
def Hd.same (h g : Hd) : Prop := (h.k = g.k ∧ h.m = g.m ∧ h.e = g.e ∧ h.t = g.t) ∧ h.ns = g.ns
/-- its texts are no longer than texts can be, its names lie there -/
def Hd.In (w : World) (h : Hd) : Prop := SIn w h.ns h.na ∧ (h.ns.length ≤ h.nc ∧ h.nc ≤ maxLen) ∧ h.t.size ≤ maxLen
theorem Hd.In.grow {w w' : World} {h : Hd} (x : h.In w) (hb : Below w.heap.size w w') : h.In w' := ⟨x.1.grow hb, x.2⟩
/-- a list of values: the first but for what is in it, where that lies, that list, the rest -/
inductive Vo
  | nil
  | cons (h : Hd) (at_ : Option Addr) (cap : Nat) (kids : Vo) (next : Vo)
def Vo.len : Vo → Nat
  | .nil => 0
  | .cons _ _ _ _ next => next.len + 1
def Vo.size : Vo → Nat
  | .nil => 0
  | .cons _ _ _ kids next => kids.size + 1 + next.size
def Vo.deep : Vo → Nat
  | .nil => 0
  | .cons _ _ _ kids next => max (kids.deep + 1) next.deep
/-- what the laws' own measure counts -/
def Vo.wt : Vo → Nat
  | .nil => 0
  | .cons h _ _ kids next => h.t.size + kids.wt + sWt h.ns + 1 + next.wt
theorem Vo.len_le (F : Vo) : F.len ≤ F.size := by
  induction F with
  | nil => exact Nat.le_refl _
  | cons h a c kids next _ ih => show next.len + 1 ≤ kids.size + 1 + next.size; omega
/-- all names in it are no more than this -/
def Vo.few (N : Nat) : Vo → Prop
  | .nil => True
  | .cons h _ _ kids next => h.ns.length ≤ N ∧ kids.few N ∧ next.few N
/-- the six cells of a value -/
def Cells6 (w : World) (b o : Nat) (h : Hd) (v : Value) : Prop :=
  w.cell? ⟨b, o, none⟩ = some (.int .i64 h.k) ∧ w.cell? ⟨b, o + 1, none⟩ = some (.int .i64 h.m) ∧ w.cell? ⟨b, o + 2, none⟩ = some (.int .i64 h.e) ∧ w.cell? ⟨b, o + 3, none⟩ = some (.string h.t) ∧ w.cell? ⟨b, o + 4, none⟩ = some v ∧ w.cell? ⟨b, o + 5, none⟩ = some (.slice h.na h.ns.length h.nc)
theorem Cells6.lt {w : World} {b o : Nat} {h : Hd} {v : Value} (x : Cells6 w b o h v) : b < w.heap.size := World.block_lt_of_cell? w _ x.1
theorem Cells6.mono {w w' : World} {b o : Nat} {h : Hd} {v : Value} (x : Cells6 w b o h v) (f : ∀ o' u, w.cell? ⟨b, o', none⟩ = some u → w'.cell? ⟨b, o', none⟩ = some u) : Cells6 w' b o h v :=
  ⟨f _ _ x.1, f _ _ x.2.1, f _ _ x.2.2.1, f _ _ x.2.2.2.1, f _ _ x.2.2.2.2.1, f _ _ x.2.2.2.2.2⟩
theorem Cells6.grow {w w' : World} {b o : Nat} {h : Hd} {v : Value} (x : Cells6 w b o h v) (hb : Below w.heap.size w w') : Cells6 w' b o h v :=
  x.mono fun o' _ hu => (hb.cell (p := ⟨b, o', none⟩) (World.block_lt_of_cell? w _ hu)).trans hu
/-- the list lies from cell o of block b on -/
def Vo.From (w : World) : Vo → Nat → Nat → Prop
  | .nil, _, _ => True
  | .cons h a c kids next, b, o => Cells6 w b o h (.slice a kids.len c) ∧ (kids = .nil ∨ ∃ b' o', a = some ⟨b', o', none⟩ ∧ kids.From w b' o') ∧ (kids.len ≤ c ∧ c ≤ maxLen) ∧ h.In w ∧ next.From w b (o + 6)
/-- the list of a slice -/
def Vo.In (w : World) (F : Vo) (a : Option Addr) : Prop := F = .nil ∨ ∃ b o, a = some ⟨b, o, none⟩ ∧ F.From w b o
theorem Vo.from_grow {w w' : World} (hb : Below w.heap.size w w') : ∀ (F : Vo) (b o : Nat), F.From w b o → F.From w' b o := by
  intro F
  induction F with
  | nil => intro b o _; trivial
  | cons h a c kids next ih1 ih2 =>
    rintro b o ⟨h1, hk, hc, hh, hn⟩
    refine ⟨h1.grow hb, ?_, hc, hh.grow hb, ih2 _ _ hn⟩
    rcases hk with hk | ⟨b', o', e1, e2⟩
    · exact .inl hk
    · exact .inr ⟨b', o', e1, ih1 _ _ e2⟩
theorem Vo.In.grow {w w' : World} {F : Vo} {a : Option Addr} (hF : F.In w a) (h : Below w.heap.size w w') : F.In w' a := by
  rcases hF with rfl | ⟨b, o, rfl, hF⟩
  · exact .inl rfl
  · exact .inr ⟨b, o, rfl, Vo.from_grow h F b o hF⟩
theorem Vo.from_of_len {F : Vo} {w : World} {a : Option Addr} (hin : F.In w a) {i : Nat} (hi : i < F.len) : ∃ b o, a = some ⟨b, o, none⟩ ∧ F.From w b o := by
  rcases hin with rfl | h
  · exact absurd hi (Nat.not_lt_zero _)
  · exact h
/-- a value -/
abbrev valV (h : Hd) (a : Option Addr) (n c : Nat) : Value := .agg #[.int .i64 h.k, .int .i64 h.m, .int .i64 h.e, .string h.t, .slice a n c, .slice h.na h.ns.length h.nc]
/-- the same but for where they lie -/
def Vo.alike : Vo → Vo → Prop
  | .nil, .nil => True
  | .cons h _ _ kids next, .cons h' _ _ kids' next' => h.same h' ∧ kids.alike kids' ∧ next.alike next'
  | _, _ => False
theorem Vo.alike_nil {F : Vo} (h : F.alike .nil) : F = .nil := by cases F with
  | nil => rfl
  | cons => exact h.elim
theorem Vo.alike_cons {F : Vo} {h : Hd} {a : Option Addr} {c : Nat} {kids next : Vo} (x : F.alike (.cons h a c kids next)) : ∃ h' a' c' kids' next', F = .cons h' a' c' kids' next' ∧ h'.same h ∧ kids'.alike kids ∧ next'.alike next := by
  cases F with
  | nil => exact x.elim
  | cons h' a' c' kids' next' => exact ⟨h', a', c', kids', next', rfl, x.1, x.2.1, x.2.2⟩
/-- the lists and names below lie in such blocks only -/
def Hd.Blk (P : Nat → Prop) (h : Hd) : Prop := h.ns = [] ∨ ∃ b o, h.na = some ⟨b, o, none⟩ ∧ P b
def Vo.Blk (P : Nat → Prop) : Vo → Prop
  | .nil => True
  | .cons h a _ kids next => h.Blk P ∧ (kids = .nil ∨ ∃ b' o', a = some ⟨b', o', none⟩ ∧ P b') ∧ kids.Blk P ∧ next.Blk P
theorem Hd.Blk.mono {P Q : Nat → Prop} (h : ∀ b, P b → Q b) {x : Hd} (y : x.Blk P) : x.Blk Q := by
  rcases y with y | ⟨b, o, e1, e2⟩
  · exact .inl y
  · exact .inr ⟨b, o, e1, h _ e2⟩
theorem Vo.Blk.mono {P Q : Nat → Prop} (h : ∀ b, P b → Q b) : ∀ {F : Vo}, F.Blk P → F.Blk Q := by
  intro F
  induction F with
  | nil => exact fun _ => trivial
  | cons hd a c kids next ih1 ih2 =>
    rintro ⟨hh, h0, h1, h2⟩
    refine ⟨hh.mono h, ?_, ih1 h1, ih2 h2⟩
    rcases h0 with h0 | ⟨b', o', e1, e2⟩
    · exact .inl h0
    · exact .inr ⟨b', o', e1, h _ e2⟩
theorem Hd.In.agree {P : Nat → Prop} {w w' : World} (h : ∀ b o v, P b → w.cell? ⟨b, o, none⟩ = some v → w'.cell? ⟨b, o, none⟩ = some v) {x : Hd} (y : x.Blk P) (z : x.In w) : x.In w' := by
  refine ⟨?_, z.2⟩
  rcases z.1 with z | ⟨b, o, e1, e2⟩
  · exact .inl z
  · rcases y with y | ⟨b', o', e3, e4⟩
    · exact .inl y
    · rw [e1] at e3
      cases e3
      exact .inr ⟨b, o, e1, e2.agree h e4⟩
theorem Vo.from_agree {P : Nat → Prop} {w w' : World} (h : ∀ b o v, P b → w.cell? ⟨b, o, none⟩ = some v → w'.cell? ⟨b, o, none⟩ = some v) : ∀ (F : Vo) (b o : Nat), P b → F.Blk P → F.From w b o → F.From w' b o := by
  intro F
  induction F with
  | nil => intro b o _ _ _; trivial
  | cons hd a c kids next ih1 ih2 =>
    rintro b o hb ⟨hh, h0, hb1, hb2⟩ ⟨h1, hk, hc, hi, hn⟩
    refine ⟨h1.mono fun o' u hu => h _ _ _ hb hu, ?_, hc, hi.agree h hh, ih2 _ _ hb hb2 hn⟩
    rcases hk with hk | ⟨b', o', e1, e2⟩
    · exact .inl hk
    · rcases h0 with h0 | ⟨b'', o'', e3, e4⟩
      · exact .inl h0
      · rw [e1] at e3
        cases e3
        exact .inr ⟨b', o', e1, ih1 _ _ e4 hb1 e2⟩
/-- from cell o of block nb on lies a value like this one -/
def VCop (P : Nat → Prop) (w : World) (nb o : Nat) (h : Hd) (kids : Vo) : Prop :=
  ∃ (h' : Hd) (a' : Option Addr) (c' : Nat) (kids' : Vo), Cells6 w nb o h' (.slice a' kids'.len c') ∧ (kids' = .nil ∨ ∃ b' o', a' = some ⟨b', o', none⟩ ∧ P b' ∧ kids'.From w b' o') ∧ kids'.Blk P ∧ kids'.alike kids ∧ (kids'.len ≤ c' ∧ c' ≤ maxLen) ∧ h'.In w ∧ h'.Blk P ∧ h'.same h
theorem VCop.agree {P : Nat → Prop} {w w' : World} {nb o : Nat} {h : Hd} {kids : Vo} (x : VCop P w nb o h kids) (hP : ∀ b o v, P b → w.cell? ⟨b, o, none⟩ = some v → w'.cell? ⟨b, o, none⟩ = some v)
    (hnb : ∀ q v, q < 6 → w.cell? ⟨nb, o + q, none⟩ = some v → w'.cell? ⟨nb, o + q, none⟩ = some v) : VCop P w' nb o h kids := by
  obtain ⟨h', a', c', kids', ⟨h1, h2, h3, h4, h5, h6⟩, hk, hB, hA, hc, hi, hb, hs⟩ := x
  refine ⟨h', a', c', kids', ⟨hnb 0 _ (by omega) h1, hnb 1 _ (by omega) h2, hnb 2 _ (by omega) h3, hnb 3 _ (by omega) h4, hnb 4 _ (by omega) h5, hnb 5 _ (by omega) h6⟩, ?_, hB, hA, hc, hi.agree hP hb, hb, hs⟩
  rcases hk with hk | ⟨b', o', e1, e2, e3⟩
  · exact .inl hk
  · exact .inr ⟨b', o', e1, e2, Vo.from_agree hP kids' b' o' e2 hB e3⟩
/-- the first j of a list are copied -/
def VPre (P : Nat → Prop) (w : World) (nb : Nat) : Vo → Nat → Nat → Prop
  | _, _, 0 => True
  | .nil, _, _ + 1 => True
  | .cons h _ _ kids next, o, j + 1 => VCop P w nb o h kids ∧ VPre P w nb next (o + 6) j
theorem VPre.agree {P : Nat → Prop} {w w' : World} {nb : Nat} (hP : ∀ b o v, P b → w.cell? ⟨b, o, none⟩ = some v → w'.cell? ⟨b, o, none⟩ = some v) :
    ∀ (F : Vo) (o j : Nat), (∀ o' v, o' < o + 6 * j → w.cell? ⟨nb, o', none⟩ = some v → w'.cell? ⟨nb, o', none⟩ = some v) → VPre P w nb F o j → VPre P w' nb F o j := by
  intro F
  induction F with
  | nil => intro o j _ _; cases j <;> trivial
  | cons h a c kids next _ ih =>
    intro o j hnb x
    cases j with
    | zero => trivial
    | succ j =>
      obtain ⟨h1, h2⟩ := x
      exact ⟨h1.agree hP (fun q v hq => hnb _ v (by omega)), ih _ _ (fun o' v ho => hnb o' v (by omega)) h2⟩
def Vo.drop : Vo → Nat → Vo
  | F, 0 => F
  | .nil, _ + 1 => .nil
  | .cons _ _ _ _ next, j + 1 => next.drop j
/-- all are copied: there lies a list like it -/
theorem VPre.done {P : Nat → Prop} {w : World} {nb : Nat} : ∀ (F : Vo) (o j : Nat), F.len ≤ j → VPre P w nb F o j → ∃ F' : Vo, F'.alike F ∧ F'.Blk P ∧ F'.From w nb o := by
  intro F
  induction F with
  | nil => intro o j _ _; exact ⟨.nil, trivial, trivial, trivial⟩
  | cons h a c kids next _ ih =>
    intro o j hj x
    have hj' : next.len + 1 ≤ j := hj
    obtain ⟨j, rfl⟩ : ∃ i, j = i + 1 := ⟨j - 1, by omega⟩
    obtain ⟨⟨h', a', c', kids', hcells, hk, hB, hA, hc, hi, hb, hs⟩, h2⟩ := x
    obtain ⟨next', hA2, hB2, hF2⟩ := ih (o + 6) j (by omega) h2
    refine ⟨.cons h' a' c' kids' next', ⟨hs, hA, hA2⟩, ⟨hb, ?_, hB, hB2⟩, hcells, ?_, hc, hi, hF2⟩
    · rcases hk with hk | ⟨b', o', e1, e2, _⟩
      · exact .inl hk
      · exact .inr ⟨b', o', e1, e2⟩
    · rcases hk with hk | ⟨b', o', e1, _, e3⟩
      · exact .inl hk
      · exact .inr ⟨b', o', e1, e3⟩
/-- what stands at a place of a list -/
def Vo.hdAt : Vo → Nat → Hd
  | .nil, _ => ⟨0, 0, 0, ⟨#[]⟩, none, 0, []⟩
  | .cons h _ _ _ _, 0 => h
  | .cons _ _ _ _ next, i + 1 => next.hdAt i
def Vo.addrAt : Vo → Nat → Option Addr
  | .nil, _ => none
  | .cons _ a _ _ _, 0 => a
  | .cons _ _ _ _ next, i + 1 => next.addrAt i
def Vo.capAt : Vo → Nat → Nat
  | .nil, _ => 0
  | .cons _ _ c _ _, 0 => c
  | .cons _ _ _ _ next, i + 1 => next.capAt i
def Vo.kidsAt : Vo → Nat → Vo
  | .nil, _ => .nil
  | .cons _ _ _ kids _, 0 => kids
  | .cons _ _ _ _ next, i + 1 => next.kidsAt i
theorem Vo.from_at : ∀ {F : Vo} {w : World} {b o i : Nat}, F.From w b o → i < F.len →
    Cells6 w b (o + i * 6) (F.hdAt i) (.slice (F.addrAt i) (F.kidsAt i).len (F.capAt i)) ∧ (F.kidsAt i).In w (F.addrAt i) ∧ ((F.kidsAt i).len ≤ F.capAt i ∧ F.capAt i ≤ maxLen) ∧ (F.hdAt i).In w := by
  intro F
  induction F with
  | nil => intro w b o i _ h; exact absurd h (Nat.not_lt_zero _)
  | cons h a c kids next _ ih =>
    rintro w b o i ⟨hc, hk, h1, h2, hn⟩ hi
    cases i with
    | zero => simp only [Nat.zero_mul, Nat.add_zero]; exact ⟨hc, hk, h1, h2⟩
    | succ i =>
      have := ih hn (show i < next.len from Nat.lt_of_succ_lt_succ hi)
      rw [show o + 6 + i * 6 = o + (i + 1) * 6 by omega] at this
      exact this
theorem Vo.size_at : ∀ {F : Vo} {i : Nat}, i < F.len → (F.kidsAt i).size < F.size := by
  intro F
  induction F with
  | nil => intro i h; exact absurd h (Nat.not_lt_zero _)
  | cons h a c kids next _ ih =>
    intro i hi
    cases i with
    | zero => show kids.size < kids.size + 1 + next.size; omega
    | succ i => have := ih (show i < next.len from Nat.lt_of_succ_lt_succ hi); show (next.kidsAt i).size < kids.size + 1 + next.size; omega
end Go.Proofs.Ytfgchdnpbbgmjaa
/- Values: a list of values as cells one behind the other, and what lies below them. -/
namespace Go.Proofs.Ytfgchdnpbbgmjaa
open Go.RowKit
/-- the six cells of a value -/
def six (h : Hd) (a : Option Addr) (n c : Nat) : List Value := [.int .i64 h.k, .int .i64 h.m, .int .i64 h.e, .string h.t, .slice a n c, .slice h.na h.ns.length h.nc]
theorem six_length (h : Hd) (a : Option Addr) (n c : Nat) : (six h a n c).length = 6 := rfl
def Vo.cells : Vo → List Value
  | .nil => []
  | .cons h a c kids next => six h a kids.len c ++ next.cells
theorem Vo.cells_length : ∀ F : Vo, F.cells.length = F.len * 6 := by
  intro F
  induction F with
  | nil => rfl
  | cons h a c kids next _ ih => show (six h a kids.len c ++ next.cells).length = (next.len + 1) * 6; rw [List.length_append, ih, six_length]; omega
theorem six_one {h : Hd} {a : Option Addr} {n c : Nat} : ∀ u ∈ six h a n c, u.oneCell' = true := by
  intro u hu
  simp [six] at hu
  rcases hu with hu | hu | hu | hu | hu | hu <;> subst hu <;> rfl
theorem Vo.cells_one : ∀ (F : Vo), ∀ u ∈ F.cells, u.oneCell' = true := by
  intro F
  induction F with
  | nil => intro u hu; cases hu
  | cons h a c kids next _ ih =>
    intro u hu
    rcases List.mem_append.1 (show u ∈ six h a kids.len c ++ next.cells from hu) with hu | hu
    · exact six_one u hu
    · exact ih u hu
/-- one list behind another -/
def Vo.app : Vo → Vo → Vo
  | .nil, G => G
  | .cons h a c kids next, G => .cons h a c kids (next.app G)
theorem Vo.app_cells (F G : Vo) : (F.app G).cells = F.cells ++ G.cells := by
  induction F with
  | nil => rfl
  | cons h a c kids next _ ih => show six h a kids.len c ++ (next.app G).cells = (six h a kids.len c ++ next.cells) ++ G.cells; rw [ih, List.append_assoc]
theorem Vo.app_len (F G : Vo) : (F.app G).len = F.len + G.len := by
  induction F with
  | nil => show G.len = 0 + G.len; omega
  | cons h a c kids next _ ih => show (next.app G).len + 1 = next.len + 1 + G.len; omega
theorem Vo.app_size (F G : Vo) : (F.app G).size = F.size + G.size := by
  induction F with
  | nil => show G.size = 0 + G.size; omega
  | cons h a c kids next _ ih => show kids.size + 1 + (next.app G).size = kids.size + 1 + next.size + G.size; omega
theorem Vo.app_wt (F G : Vo) : (F.app G).wt = F.wt + G.wt := by
  induction F with
  | nil => show G.wt = 0 + G.wt; omega
  | cons h a c kids next _ ih => show h.t.size + kids.wt + sWt h.ns + 1 + (next.app G).wt = h.t.size + kids.wt + sWt h.ns + 1 + next.wt + G.wt; omega
theorem Vo.app_blk {P : Nat → Prop} {F G : Vo} (hF : F.Blk P) (hG : G.Blk P) : (F.app G).Blk P := by
  induction F with
  | nil => exact hG
  | cons h a c kids next _ ih => exact ⟨hF.1, hF.2.1, hF.2.2.1, ih hF.2.2.2⟩
theorem Vo.app_few {N : Nat} {F G : Vo} (hF : F.few N) (hG : G.few N) : (F.app G).few N := by
  induction F with
  | nil => exact hG
  | cons h a c kids next _ ih => exact ⟨hF.1, hF.2.1, ih hF.2.2⟩
/-- what is in the values of a list lies there -/
def Vo.Kin (w : World) : Vo → Prop
  | .nil => True
  | .cons h a c kids next => (kids = .nil ∨ ∃ b' o', a = some ⟨b', o', none⟩ ∧ kids.From w b' o') ∧ (kids.len ≤ c ∧ c ≤ maxLen) ∧ h.In w ∧ next.Kin w
theorem Vo.app_kin {w : World} {F G : Vo} (hF : F.Kin w) (hG : G.Kin w) : (F.app G).Kin w := by
  induction F with
  | nil => exact hG
  | cons h a c kids next _ ih => exact ⟨hF.1, hF.2.1, hF.2.2.1, ih hF.2.2.2⟩
theorem Vo.from_iff : ∀ {F : Vo} {w : World} {b o : Nat}, F.From w b o ↔ ((∀ i v, F.cells[i]? = some v → w.cell? ⟨b, o + i, none⟩ = some v) ∧ F.Kin w) := by
  intro F
  induction F with
  | nil => intro w b o; exact ⟨fun _ => ⟨fun i v h => (by simp [Vo.cells] at h), trivial⟩, fun _ => trivial⟩
  | cons h a c kids next _ ih =>
    intro w b o
    have hc : ∀ i, (Vo.cons h a c kids next).cells[i + 6]? = next.cells[i]? := fun i => by
      show (six h a kids.len c ++ next.cells)[i + 6]? = _
      rw [List.getElem?_append_right (by rw [six_length]; omega)]; simp [six_length]
    have hl : ∀ i, i < 6 → (Vo.cons h a c kids next).cells[i]? = (six h a kids.len c)[i]? := fun i hi => by
      show (six h a kids.len c ++ next.cells)[i]? = _
      rw [List.getElem?_append_left (by rw [six_length]; omega)]
    constructor
    · rintro ⟨⟨h0, h1, h2, h3, h4, h5⟩, hk, hcc, hh, hn⟩
      obtain ⟨n1, n2⟩ := ih.1 hn
      refine ⟨fun i v hv => ?_, hk, hcc, hh, n2⟩
      by_cases hi : i < 6
      · rw [hl i hi] at hv
        have : i = 0 ∨ i = 1 ∨ i = 2 ∨ i = 3 ∨ i = 4 ∨ i = 5 := by omega
        rcases this with rfl | rfl | rfl | rfl | rfl | rfl
        all_goals (simp [six] at hv; subst hv; assumption)
      · obtain ⟨i, rfl⟩ : ∃ j, i = j + 6 := ⟨i - 6, by omega⟩
        rw [hc] at hv
        have := n1 i v hv
        rw [show o + (i + 6) = o + 6 + i by omega]; exact this
    · rintro ⟨h1, hk, hcc, hh, hn⟩
      refine ⟨⟨h1 0 _ (hl 0 (by omega)), h1 1 _ (hl 1 (by omega)), h1 2 _ (hl 2 (by omega)), h1 3 _ (hl 3 (by omega)), h1 4 _ (hl 4 (by omega)), h1 5 _ (hl 5 (by omega))⟩, hk, hcc, hh, ih.2 ⟨fun i v hv => ?_, hn⟩⟩
      rw [← hc] at hv
      have := h1 _ v hv
      rw [show o + 6 + i = o + (i + 6) by omega]; exact this
theorem Vo.In.kin {F : Vo} {w : World} {a : Option Addr} (h : F.In w a) : F.Kin w := by
  rcases h with rfl | ⟨b, o, _, h⟩
  · trivial
  · exact (Vo.from_iff.1 h).2
theorem Vo.kin_grow {w w' : World} (hb : Below w.heap.size w w') : ∀ {F : Vo}, F.Kin w → F.Kin w' := by
  intro F
  induction F with
  | nil => exact fun _ => trivial
  | cons h a c kids next _ ih =>
    rintro ⟨hk, hc, hh, hn⟩
    refine ⟨?_, hc, hh.grow hb, ih hn⟩
    rcases hk with hk | ⟨b', o', e1, e2⟩
    · exact .inl hk
    · exact .inr ⟨b', o', e1, Vo.from_grow hb _ _ _ e2⟩
theorem Vo.kin_agree {P : Nat → Prop} {w w' : World} (h : ∀ b o v, P b → w.cell? ⟨b, o, none⟩ = some v → w'.cell? ⟨b, o, none⟩ = some v) : ∀ {F : Vo}, F.Blk P → F.Kin w → F.Kin w' := by
  intro F
  induction F with
  | nil => exact fun _ _ => trivial
  | cons hd a c kids next _ ih =>
    rintro ⟨hh, h0, hb1, hb2⟩ ⟨hk, hc, hi, hn⟩
    refine ⟨?_, hc, hi.agree h hh, ih hb2 hn⟩
    rcases hk with hk | ⟨b', o', e1, e2⟩
    · exact .inl hk
    · rcases h0 with h0 | ⟨b'', o'', e3, e4⟩
      · exact .inl h0
      · rw [e1] at e3
        cases e3
        exact .inr ⟨b', o', e1, Vo.from_agree h kids _ _ e4 hb1 e2⟩
/-- a value alone -/
abbrev oneV (h : Hd) (a : Option Addr) (c : Nat) (F : Vo) : Vo := .cons h a c F .nil
theorem Vo.kin_one {w : World} {h : Hd} {a : Option Addr} {c : Nat} {F : Vo} : (oneV h a c F).Kin w ↔ (F.In w a ∧ (F.len ≤ c ∧ c ≤ maxLen) ∧ h.In w) := ⟨fun x => ⟨x.1, x.2.1, x.2.2.1⟩, fun x => ⟨x.1, x.2.1, x.2.2, trivial⟩⟩
theorem Vo.cells_oneV (h : Hd) (a : Option Addr) (c : Nat) (F : Vo) : (oneV h a c F).cells = six h a F.len c := List.append_nil _
end Go.Proofs.Ytfgchdnpbbgmjaa
/- Values: cells that lie somewhere, put behind a slice that is owned; a value put into an object: mathematics. -/
namespace Go.Proofs.Ytfgchdnpbbgmjaa
open Go.RowKit
/-- these cells lie where a slice begins -/
def Lies (w : World) (a : Option Addr) (L : List Value) : Prop := L = [] ∨ ∃ b o, a = some ⟨b, o, none⟩ ∧ ∀ i v, L[i]? = some v → w.cell? ⟨b, o + i, none⟩ = some v
theorem Lies.grow {w w' : World} {a : Option Addr} {L : List Value} (h : Lies w a L) (hb : Below w.heap.size w w') : Lies w' a L := by
  rcases h with h | ⟨b, o, e1, e2⟩
  · exact .inl h
  · exact .inr ⟨b, o, e1, fun i v hv => (hb.cell (p := ⟨b, o + i, none⟩) (World.block_lt_of_cell? w _ (e2 i v hv))).trans (e2 i v hv)⟩
theorem Vo.In.lies {F : Vo} {w : World} {a : Option Addr} (h : F.In w a) : Lies w a F.cells := by
  rcases h with rfl | ⟨b, o, e, h⟩
  · exact .inl rfl
  · exact .inr ⟨b, o, e, (Vo.from_iff.1 h).1⟩
theorem Lies.in {F : Vo} {w : World} {a : Option Addr} (h : Lies w a F.cells) (hk : F.Kin w) : F.In w a := by
  rcases h with h | ⟨b, o, e, h⟩
  · left
    cases F with
    | nil => rfl
    | cons h0 a0 c0 kids next => exact absurd h (by simp [Vo.cells, six])
  · exact .inr ⟨b, o, e, Vo.from_iff.2 ⟨h, hk⟩⟩
/-- texts as cells -/
def texts (ss : List ByteArray) : List Value := ss.map Value.string
theorem texts_length (ss : List ByteArray) : (texts ss).length = ss.length := List.length_map _
theorem texts_one {ss : List ByteArray} : ∀ u ∈ texts ss, u.oneCell' = true := by
  intro u hu
  obtain ⟨s, _, rfl⟩ := List.mem_map.1 hu
  rfl
theorem sfrom_iff : ∀ {ss : List ByteArray} {w : World} {b o : Nat}, SFrom w ss b o ↔ ((∀ i v, (texts ss)[i]? = some v → w.cell? ⟨b, o + i, none⟩ = some v) ∧ ∀ s ∈ ss, s.size ≤ maxLen) := by
  intro ss w b o
  constructor
  · intro h
    constructor
    · intro i v hv
      rw [texts, List.getElem?_map] at hv
      obtain ⟨s, hs, rfl⟩ := Option.map_eq_some_iff.1 hv
      exact (h.at hs).1
    · intro s hs
      obtain ⟨i, hi⟩ := List.getElem?_of_mem hs
      exact (h.at hi).2
  · rintro ⟨h1, h2⟩
    exact SFrom.of fun i s hi => ⟨h1 i _ (by rw [texts, List.getElem?_map, hi]; rfl), h2 s (List.mem_of_getElem? hi)⟩
theorem SIn.lies {ss : List ByteArray} {w : World} {a : Option Addr} (h : SIn w ss a) : Lies w a (texts ss) ∧ ∀ s ∈ ss, s.size ≤ maxLen := by
  rcases h with rfl | ⟨b, o, e, h⟩
  · exact ⟨.inl rfl, fun s hs => by cases hs⟩
  · exact ⟨.inr ⟨b, o, e, (sfrom_iff.1 h).1⟩, (sfrom_iff.1 h).2⟩
theorem Lies.sin {ss : List ByteArray} {w : World} {a : Option Addr} (h : Lies w a (texts ss)) (hs : ∀ s ∈ ss, s.size ≤ maxLen) : SIn w ss a := by
  rcases h with h | ⟨b, o, e, h⟩
  · left
    cases ss with
    | nil => rfl
    | cons s t => exact absurd h (by simp [texts])
  · exact .inr ⟨b, o, e, sfrom_iff.2 ⟨h, hs⟩⟩
theorem own_lies {W : World} {base size : Nat} {e : TypeId} {v : Value} {n : Nat} {xs : List Value} (hown : W.ownsRow base e size v n xs) :
    ∃ a c, v = .slice a n c ∧ Lies W a xs ∧ (n ≤ c ∧ c ≤ maxLen) ∧ (n = 0 ∨ ∃ b, a = some ⟨b, 0, none⟩ ∧ v.ownBlock = some b ∧ base ≤ b) := by
  have hl := hown.1
  rcases hown.2 with ⟨rfl, h0⟩ | ⟨g, cap, cur, rfl, h1, h2, h3, h4, _⟩
  · subst h0
    exact ⟨none, 0, rfl, .inl (List.eq_nil_of_length_eq_zero (by rw [hl]; omega)), ⟨Nat.le_refl _, by unfold maxLen; omega⟩, .inl rfl⟩
  · refine ⟨some ⟨g, 0, none⟩, cap, rfl, .inr ⟨g, 0, rfl, fun i u hi => ?_⟩, ⟨h3, h4⟩, .inr ⟨g, rfl, rfl, h1⟩⟩
    have hl2 : i < n * size := by rw [← hl]; exact (List.getElem?_eq_some_iff.1 hi).1
    rw [Nat.zero_add, hown.cellAt i hl2]; exact hi
/-- what is appended lies where a slice begins -/
def Src (w : World) (a : Option Addr) (m : Nat) (ys : List Value) : Prop := m = 0 ∨ ∃ ad, a = some ad ∧ ∀ j u, ys[j]? = some u → w.cell? (ad.add j) = some u
theorem addr_add (b o n : Nat) : (⟨b, o, none⟩ : Addr).add n = ⟨b, o + n, none⟩ := by
  unfold Addr.add
  split
  · next h => subst h; rfl
  · rfl
theorem Lies.nil_of {w : World} {a : Option Addr} {L : List Value} (h : Lies w a L) {sz n : Nat} (hl : L.length = n * sz) (hz : 0 < sz) : n = 0 ∨ ∃ b o, a = some ⟨b, o, none⟩ ∧ ∀ i v, L[i]? = some v → w.cell? ⟨b, o + i, none⟩ = some v := by
  rcases h with h | h
  · left
    subst h
    have hz2 : n * sz = 0 := by simpa using hl.symm
    rcases Nat.mul_eq_zero.1 hz2 with h1 | h1 <;> omega
  · exact .inr h
theorem Lies.src {w : World} {a : Option Addr} {L : List Value} (h : Lies w a L) {sz n : Nat} (hl : L.length = n * sz) (hz : 0 < sz) : Src w a n L := by
  rcases h.nil_of hl hz with h0 | ⟨b, o, rfl, h2⟩
  · exact .inl h0
  · exact .inr ⟨_, rfl, fun j u hj => by rw [addr_add]; exact h2 j u hj⟩
theorem Lies.take0 {w : World} {a : Option Addr} {L : List Value} (h : Lies w a L) {sz n : Nat} (hl : L.length = n * sz) (hz : 0 < sz) (k : Nat) (hk : k ≤ n) : Src w a k (L.take (k * sz)) := by
  rcases h.nil_of hl hz with h0 | ⟨b, o, rfl, h2⟩
  · exact .inl (by omega)
  · refine .inr ⟨⟨b, o, none⟩, rfl, fun j u hj => ?_⟩
    rw [addr_add]
    refine h2 j u ?_
    rw [List.getElem?_take] at hj
    split at hj
    · exact hj
    · cases hj
theorem Lies.drop {w : World} {a : Option Addr} {L : List Value} (h : Lies w a L) {sz n : Nat} (hl : L.length = n * sz) (hz : 0 < sz) (k c : Nat) (hn : n ≤ c) : Src w (if c = k then a else a.map (·.add (k * sz))) (n - k) (L.drop (k * sz)) := by
  rcases h.nil_of hl hz with h0 | ⟨b, o, rfl, h2⟩
  · exact .inl (by omega)
  · by_cases hc : c = k
    · exact .inl (by omega)
    · refine .inr ⟨⟨b, o + k * sz, none⟩, ?_, fun j u hj => ?_⟩
      · rw [if_neg hc, Option.map_some, addr_add]
      · rw [addr_add, Nat.add_assoc]
        exact h2 _ u (by rw [List.getElem?_drop] at hj; exact hj)
section
variable {P : Program}
theorem run_append_lie (w : World) (base : Nat) (t ty e : TypeId) (i : TypeInfo) (z : Value) (size bytes : Nat) (ht : P.underlying t = some (.slice e)) (hi : P.info? e = some i) (hz : i.zero = some z)
    (hsize : i.size = size) (hby : i.bytes = bytes) (hzs : z.cells.size = size) (hsz : 0 < size)
    (v : Value) (n : Nat) (xs : List Value) (hown : w.ownsRow base e size v n xs)
    (a : Option Addr) (m c : Nat) (news : List Value) (hl : news.length = m * size) (hnews : Src w a m news) (h1 : ∀ u ∈ news, u.oneCell' = true)
    (h63 : n + m ≤ maxLen) (hbytes : (n + m) * bytes ≤ 140737488355328) (hbase : base ≤ w.heap.size) :
    ∃ v' w', (Builtin.append_ #[t, t] ty #[v, .slice a m c]).run P w = .ok v' w' ∧ w'.ownsRow base e size v' (n + m) (xs ++ news) ∧ w.grownBy w' v.ownBlock ∧ (v'.ownBlock = v.ownBlock ∨ v'.ownBlock = some w.heap.size) := by
  cases a with
  | none =>
    have hm : m = 0 := by
      rcases hnews with h | ⟨ad, h, _⟩
      · exact h
      · cases h
    subst hm
    have hy : news = [] := List.eq_nil_of_length_eq_zero (by rw [hl, Nat.zero_mul])
    subst hy
    refine ⟨v, w, ?_, by simpa using hown, ⟨rfl, rfl, rfl, Nat.le_refl _, fun _ _ _ => rfl⟩, .inl rfl⟩
    rcases hown.2 with ⟨rfl, rfl⟩ | ⟨g, cap, cur, rfl, _, _, hnc, _⟩
    · simp [Builtin.append_, run_underlying ht, sizeOf, typeInfo, hi, Builtin.lenOf, Builtin.firstCells]
    · simp [Builtin.append_, run_underlying ht, sizeOf, typeInfo, hi, Builtin.lenOf, Builtin.firstCells, hnc, storeCells]
  | some ad =>
    obtain ⟨v', w', hr, h2, h3, _, h5⟩ := run_append_own_at (P := P) w base t ty e i z size bytes ht hi hz hsize hby hzs hsz v n xs hown ad m c news hl (fun j u hj => by
      rcases hnews with h | ⟨ad', h, h2⟩
      · subst h
        have : news = [] := List.eq_nil_of_length_eq_zero (by rw [hl, Nat.zero_mul])
        subst this
        cases hj
      · cases h
        exact h2 j u hj) h1 h63 hbytes hbase
    exact ⟨v', w', hr, h2, h3, h5⟩
theorem wp_append_lie {o : Oper} {a : Act} {K : Act → World → Prop} {Q : Exit → Act → World → Prop} (w : World) (s x : Operand) (t : TypeId)
    (ho : o.op = .call { callee := .builtin .append, args := #[s, x], argTypes := #[t, t] })
    (base : Nat) (e : TypeId) (i : TypeInfo) (z : Value) (size bytes : Nat) (ht : P.underlying t = some (.slice e)) (hi : P.info? e = some i) (hz : i.zero = some z)
    (hsize : i.size = size) (hby : i.bytes = bytes) (hzs : z.cells.size = size) (hsz : 0 < size)
    (v : Value) (n : Nat) (xs : List Value) (hs : a.eval s = v) (hown : w.ownsRow base e size v n xs) (ad : Option Addr) (m c : Nat) (news : List Value) (hx : a.eval x = .slice ad m c)
    (hl : news.length = m * size) (hnews : Src w ad m news) (h1 : ∀ u ∈ news, u.oneCell' = true) (h63 : n + m ≤ maxLen) (hbytes : (n + m) * bytes ≤ 140737488355328) (hbase : base ≤ w.heap.size)
    (h : ∀ v' w', w'.ownsRow base e size v' (n + m) (xs ++ news) → w.grownBy w' v.ownBlock → (v'.ownBlock = v.ownBlock ∨ v'.ownBlock = some w.heap.size) → K (a.put o.dst v') w') : o.wp P a w K Q := by
  obtain ⟨v', w', hr, h2, h3, h4⟩ := run_append_lie (P := P) w base t o.type e i z size bytes ht hi hz hsize hby hzs hsz v n xs hown ad m c news hl hnews h1 h63 hbytes hbase
  unfold Oper.wp execOp
  simp only [ho, resolve, invoke, builtin, Sem.run_bind, Sem.run_pure, Result.andThen_ok, List.map_toArray, List.map_cons, List.map_nil, hs, hx, hr]
  exact h v' w' h2 h3 h4
end
theorem below_grown {B : Nat} {w W1 W2 : World} {e : TypeId} {size : Nat} {v : Value} {n : Nat} {xs : List Value} (hB : Below B w W1) (hown : W1.ownsRow B e size v n xs) (hg : W1.grownBy W2 v.ownBlock) (hz : B ≤ W1.heap.size) : Below B w W2 :=
  hB.grown hg hz (fun k hk => (hown.lt k hk).1)
/-- where a name goes -/
def plc (s : ByteArray) : List ByteArray → Nat
  | [] => 0
  | x :: t => if Op.bytesLess x.toList s.toList then plc s t + 1 else 0
theorem plc_le (s : ByteArray) (ss : List ByteArray) : plc s ss ≤ ss.length := by
  induction ss with
  | nil => exact Nat.le_refl _
  | cons x t ih => unfold plc; split <;> simp <;> omega
/-- a name put among others -/
def insN (s : ByteArray) (ss : List ByteArray) : List ByteArray := ss.take (plc s ss) ++ s :: ss.drop (plc s ss)
def Vo.take : Vo → Nat → Vo
  | _, 0 => .nil
  | .nil, _ + 1 => .nil
  | .cons h a c kids next, k + 1 => .cons h a c kids (next.take k)
theorem Vo.take_cells : ∀ (F : Vo) (k : Nat), (F.take k).cells = F.cells.take (k * 6) := by
  intro F
  induction F with
  | nil => intro k; cases k <;> simp [Vo.take, Vo.cells]
  | cons h a c kids next _ ih =>
    intro k
    cases k with
    | zero => simp [Vo.take, Vo.cells]
    | succ k =>
      show six h a kids.len c ++ (next.take k).cells = (six h a kids.len c ++ next.cells).take ((k + 1) * 6)
      rw [ih, List.take_append, six_length, List.take_of_length_le (l := six h a kids.len c) (by rw [six_length]; omega), show (k + 1) * 6 - 6 = k * 6 by omega]
theorem Vo.drop_cells : ∀ (F : Vo) (k : Nat), (F.drop k).cells = F.cells.drop (k * 6) := by
  intro F
  induction F with
  | nil => intro k; cases k <;> simp [Vo.drop, Vo.cells]
  | cons h a c kids next _ ih =>
    intro k
    cases k with
    | zero => simp [Vo.drop]
    | succ k =>
      show (next.drop k).cells = (six h a kids.len c ++ next.cells).drop ((k + 1) * 6)
      have hd : (six h a kids.len c).drop ((k + 1) * 6) = [] := List.drop_eq_nil_of_le (by rw [six_length]; omega)
      rw [ih, List.drop_append, six_length, hd, show (k + 1) * 6 - 6 = k * 6 by omega, List.nil_append]
theorem Vo.take_drop : ∀ (F : Vo) (k : Nat), (F.take k).app (F.drop k) = F := by
  intro F
  induction F with
  | nil => intro k; cases k <;> rfl
  | cons h a c kids next _ ih =>
    intro k
    cases k with
    | zero => rfl
    | succ k => show Vo.cons h a c kids ((next.take k).app (next.drop k)) = _; rw [ih]
theorem Vo.app_kin_iff {w : World} {F G : Vo} : (F.app G).Kin w ↔ F.Kin w ∧ G.Kin w := by
  induction F with
  | nil => exact ⟨fun h => ⟨trivial, h⟩, fun h => h.2⟩
  | cons h a c kids next _ ih => exact ⟨fun x => ⟨⟨x.1, x.2.1, x.2.2.1, (ih.1 x.2.2.2).1⟩, (ih.1 x.2.2.2).2⟩, fun x => ⟨x.1.1, x.1.2.1, x.1.2.2.1, ih.2 ⟨x.1.2.2.2, x.2⟩⟩⟩
theorem Vo.app_blk_iff {P : Nat → Prop} {F G : Vo} : (F.app G).Blk P ↔ F.Blk P ∧ G.Blk P := by
  induction F with
  | nil => exact ⟨fun h => ⟨trivial, h⟩, fun h => h.2⟩
  | cons h a c kids next _ ih => exact ⟨fun x => ⟨⟨x.1, x.2.1, x.2.2.1, (ih.1 x.2.2.2).1⟩, (ih.1 x.2.2.2).2⟩, fun x => ⟨x.1.1, x.1.2.1, x.1.2.2.1, ih.2 ⟨x.1.2.2.2, x.2⟩⟩⟩
theorem Vo.app_few_iff {N : Nat} {F G : Vo} : (F.app G).few N ↔ F.few N ∧ G.few N := by
  induction F with
  | nil => exact ⟨fun h => ⟨trivial, h⟩, fun h => h.2⟩
  | cons h a c kids next _ ih => exact ⟨fun x => ⟨⟨x.1, x.2.1, (ih.1 x.2.2).1⟩, (ih.1 x.2.2).2⟩, fun x => ⟨x.1.1, x.1.2.1, ih.2 ⟨x.1.2.2, x.2⟩⟩⟩
/-- a value put among others at a place -/
def insV (X : Vo) (F : Vo) (k : Nat) : Vo := (F.take k).app (X.app (F.drop k))
theorem insV_cells (X F : Vo) (k : Nat) : (insV X F k).cells = F.cells.take (k * 6) ++ (X.cells ++ F.cells.drop (k * 6)) := by
  unfold insV; rw [Vo.app_cells, Vo.app_cells, Vo.take_cells, Vo.drop_cells]
theorem insV_len (X F : Vo) (k : Nat) : (insV X F k).len = F.len + X.len := by
  have := congrArg Vo.len (Vo.take_drop F k)
  rw [Vo.app_len] at this
  unfold insV; rw [Vo.app_len, Vo.app_len]; omega
theorem insV_size (X F : Vo) (k : Nat) : (insV X F k).size = F.size + X.size := by
  have := congrArg Vo.size (Vo.take_drop F k)
  rw [Vo.app_size] at this
  unfold insV; rw [Vo.app_size, Vo.app_size]; omega
theorem insV_kin {w : World} {X F : Vo} {k : Nat} (hX : X.Kin w) (hF : F.Kin w) : (insV X F k).Kin w := by
  rw [← Vo.take_drop F k, Vo.app_kin_iff] at hF
  exact Vo.app_kin hF.1 (Vo.app_kin hX hF.2)
theorem insV_blk {P : Nat → Prop} {X F : Vo} {k : Nat} (hX : X.Blk P) (hF : F.Blk P) : (insV X F k).Blk P := by
  rw [← Vo.take_drop F k, Vo.app_blk_iff] at hF
  exact Vo.app_blk hF.1 (Vo.app_blk hX hF.2)
theorem insV_few {N : Nat} {X F : Vo} {k : Nat} (hX : X.few N) (hF : F.few N) : (insV X F k).few N := by
  rw [← Vo.take_drop F k, Vo.app_few_iff] at hF
  exact Vo.app_few hF.1 (Vo.app_few hX hF.2)
/-- an object in it has a name for each of its values; texts and names are short -/
def Vo.nob : Vo → Prop
  | .nil => True
  | .cons h _ _ kids next => ((h.k = 6 → kids.len ≤ h.ns.length) ∧ h.t.size ≤ 7 ∧ ∀ s ∈ h.ns, s.size ≤ 10) ∧ kids.nob ∧ next.nob
theorem Vo.app_nob {F G : Vo} (hF : F.nob) (hG : G.nob) : (F.app G).nob := by
  induction F with
  | nil => exact hG
  | cons h a c kids next _ ih => exact ⟨hF.1, hF.2.1, ih hF.2.2⟩
theorem Vo.app_nob_iff {F G : Vo} : (F.app G).nob ↔ F.nob ∧ G.nob := by
  induction F with
  | nil => exact ⟨fun h => ⟨trivial, h⟩, fun h => h.2⟩
  | cons h a c kids next _ ih => exact ⟨fun x => ⟨⟨x.1, x.2.1, (ih.1 x.2.2).1⟩, (ih.1 x.2.2).2⟩, fun x => ⟨x.1.1, x.1.2.1, ih.2 ⟨x.1.2.2, x.2⟩⟩⟩
theorem insV_nob {X F : Vo} {k : Nat} (hX : X.nob) (hF : F.nob) : (insV X F k).nob := by
  rw [← Vo.take_drop F k, Vo.app_nob_iff] at hF
  exact Vo.app_nob hF.1 (Vo.app_nob hX hF.2)
/-- few names, and enough for an object -/
def fw (h : Hd) (F : Vo) : Prop := F.few 4 ∧ (h.k = 6 → F.len ≤ h.ns.length) ∧ F.nob
end Go.Proofs.Ytfgchdnpbbgmjaa
/- A block's cells, that may be written, as a list of values. -/
namespace Go.Proofs.Ytfgchdnpbbgmjaa
open Go.RowKit
attribute [local go_sem] cell_alloc_is frozen_alloc_is
/-- block b has these cells at its beginning, and they may be written -/
def Row (w : World) (b : Nat) (vs : List Value) : Prop := ∀ i v, vs[i]? = some v → w.cell? ⟨b, i, none⟩ = some v ∧ w.frozen? ⟨b, i, none⟩ = false
theorem Row.new (w : World) (vs : List Value) (T : TypeId) : Row (w.alloc (.cells vs.toArray T)) w.heap.size vs := by
  intro i v hi
  refine ⟨?_, by simp⟩
  rw [World.cell?_alloc_new]
  simpa using hi
theorem Row.lt {w : World} {b : Nat} {v : Value} {vs : List Value} (h : Row w b (v :: vs)) : b < w.heap.size := World.block_lt_of_cell? w _ (h 0 v rfl).1
theorem Row.below {B : Nat} {w w' : World} {b : Nat} {vs : List Value} (h : Row w b vs) (hb : Below B w w') (hB : b < B) : Row w' b vs := fun i v hi =>
  ⟨(hb.cell (p := ⟨b, i, none⟩) hB).trans (h i v hi).1, (hb.frozen (p := ⟨b, i, none⟩) hB).trans (h i v hi).2⟩
theorem Row.setOther {w : World} {b : Nat} {vs : List Value} (h : Row w b vs) {j : Nat} (hj : ¬ b = j) (o : Nat) (u : Value) : Row (w.setCell ⟨j, o, none⟩ u) b vs := fun i v hi =>
  ⟨(World.cell?_setCell_other _ _ _ _ (fun e => hj (by simpa using congrArg Addr.block e.symm))).trans (h i v hi).1, by simpa using (h i v hi).2⟩
theorem Row.set {w : World} {b : Nat} {vs : List Value} (h : Row w b vs) {i : Nat} (hi : i < vs.length) (u : Value) : Row (w.setCell ⟨b, i, none⟩ u) b (vs.set i u) := by
  intro j v hj
  rw [List.getElem?_set] at hj
  by_cases e : i = j
  · subst e
    rw [if_pos rfl, if_pos hi] at hj
    cases hj
    have h0 := h i (vs[i]) (List.getElem?_eq_getElem hi)
    exact ⟨set_near ⟨_, h0.1⟩, by simpa using h0.2⟩
  · rw [if_neg e] at hj
    have h0 := h j v hj
    exact ⟨(set_far e).trans h0.1, by simpa using h0.2⟩
/-- cells o, o + 1 .. are written one behind the other -/
def putN (w : World) (b o : Nat) : List Value → World
  | [] => w
  | v :: t => putN (w.setCell ⟨b, o, none⟩ v) b (o + 1) t
theorem putN_other {b b' o' : Nat} : ∀ {vs : List Value} {w : World} {o : Nat}, (¬ b' = b ∨ o' < o ∨ o + vs.length ≤ o') → (putN w b o vs).cell? ⟨b', o', none⟩ = w.cell? ⟨b', o', none⟩ := by
  intro vs
  induction vs with
  | nil => intro w o _; rfl
  | cons v t ih =>
    intro w o h
    have hl : (v :: t).length = t.length + 1 := rfl
    show (putN (w.setCell ⟨b, o, none⟩ v) b (o + 1) t).cell? _ = _
    rw [ih (by omega)]
    exact World.cell?_setCell_other _ _ _ _ (fun e => by simp at e; omega)
theorem putN_cell {b : Nat} : ∀ {vs : List Value} {w : World} {o i : Nat} {v : Value}, (∀ q, q < vs.length → ∃ u, w.cell? ⟨b, o + q, none⟩ = some u) → vs[i]? = some v → (putN w b o vs).cell? ⟨b, o + i, none⟩ = some v := by
  intro vs
  induction vs with
  | nil => intro w o i v _ h; cases h
  | cons x t ih =>
    intro w o i v hc h
    have hl : (x :: t).length = t.length + 1 := rfl
    show (putN (w.setCell ⟨b, o, none⟩ x) b (o + 1) t).cell? _ = _
    cases i with
    | zero =>
      simp at h
      subst h
      rw [putN_other (.inr (.inl (by omega)))]
      obtain ⟨u, hu⟩ := hc 0 (by omega)
      exact set_near ⟨u, hu⟩
    | succ i =>
      rw [show o + (i + 1) = o + 1 + i by omega]
      refine ih (fun q hq => ?_) (by simpa using h)
      obtain ⟨u, hu⟩ := hc (q + 1) (by omega)
      rw [show o + 1 + q = o + (q + 1) by omega]
      exact set_is ⟨u, hu⟩
theorem putN_size {b : Nat} : ∀ {vs : List Value} {w : World} {o : Nat}, (putN w b o vs).heap.size = w.heap.size := by
  intro vs
  induction vs with
  | nil => intro w o; rfl
  | cons v t ih => intro w o; show (putN (w.setCell ⟨b, o, none⟩ v) b (o + 1) t).heap.size = _; rw [ih]; simp [World.setCell]
theorem putN_below {B b : Nat} {a : World} (hb : B ≤ b) : ∀ {vs : List Value} {w : World} {o : Nat}, Below B a w → Below B a (putN w b o vs) := by
  intro vs
  induction vs with
  | nil => intro w o h; exact h
  | cons v t ih => intro w o h; exact ih (h.setCell (p := ⟨b, o, none⟩) hb _)
/-- block nb has so many cells, and they may be written -/
def RoomN (w : World) (nb n : Nat) : Prop := ∀ o, o < n → (∃ v, w.cell? ⟨nb, o, none⟩ = some v) ∧ w.frozen? ⟨nb, o, none⟩ = false
theorem RoomN.grow {w w' : World} {nb n : Nat} (h : RoomN w nb n) (hb : Below w.heap.size w w') : RoomN w' nb n := by
  intro o ho
  obtain ⟨⟨v, h1⟩, h2⟩ := h o ho
  have hl := World.block_lt_of_cell? w _ h1
  exact ⟨⟨v, (hb.cell (p := ⟨nb, o, none⟩) hl).trans h1⟩, (hb.frozen (p := ⟨nb, o, none⟩) hl).trans h2⟩
theorem RoomN.set {w : World} {nb n : Nat} (h : RoomN w nb n) (b o : Nat) (v : Value) : RoomN (w.setCell ⟨b, o, none⟩ v) nb n := by
  intro o' ho
  obtain ⟨h1, h2⟩ := h o' ho
  refine ⟨?_, by simpa using h2⟩
  obtain ⟨u, hu⟩ := h1
  exact cell?_setCell_some hu
theorem RoomN.putN {nb n : Nat} {b : Nat} : ∀ {vs : List Value} {w : World} {o : Nat}, RoomN w nb n → RoomN (putN w b o vs) nb n := by
  intro vs
  induction vs with
  | nil => intro w o h; exact h
  | cons v t ih => intro w o h; exact ih (h.set b o v)
end Go.Proofs.Ytfgchdnpbbgmjaa
/- Lists of texts: the laws' measure, copy and comparison, and slices.Equal. -/
namespace Go.Proofs.Ytfgchdnpbbgmjaa
open Go.RowKit
attribute [local go_sem] cell_alloc_is frozen_alloc_is
set_option maxRecDepth 100000 in
set_option maxHeartbeats 1000000 in
theorem sq6 {Q : Exit → Act → World → Prop} {t2 t3 t4 t6 t7 t8 t9 t10 t11 t12 t13 t14 t15 t16 t17 t18 t19 t20 t21 t22 t23 t24 t25 : Value} {W : World} {b o n c b2 o2 n2 c2 j : Nat} {s s2 : ByteArray} {q : Bool}
    (hj : (j : Int) < (n : Int)) (hj2 : (j : Int) < (n2 : Int)) (h1 : W.cell? ⟨b, o + j, none⟩ = some (.string s)) (h2 : W.cell? ⟨b2, o2 + j, none⟩ = some (.string s2)) (hq : (s.toList == s2.toList) = !q)
    (hp : ∀ p d v a w, Q (.panic p) (Act.put a d v) w → Q (.panic p) a w) (h : ∀ ws v16 v17 v18 v19 v20 v21 v22 v23, Below W.heap.size W ws → Q .normal { tmps := ((.slice (some ⟨b, o, none⟩) n c) :: (.slice (some ⟨b2, o2, none⟩) n2 c2) :: t2 :: t3 :: t4 :: (.int .i64 (j : Nat)) :: t6 :: t7 :: t8 :: t9 :: t10 :: t11 :: t12 :: t13 :: t14 :: t15 :: v16 :: v17 :: v18 :: v19 :: v20 :: v21 :: v22 :: v23 :: .bool q :: t25 :: []).toArray, defers := [] } ws) :
    Code.wp Try.prog (Code.region 6 #[{ dst := some 16, op := Op.move (Operand.tmp 0), type := 26, pos := "slices.go:25", after := #[], guard := none }, { dst := some 17, op := Op.move (Operand.tmp 5), type := 3, pos := "slices.go:25", after := #[], guard := none }, { dst := some 18, op := Op.indexAddr 26 (Operand.tmp 16) (Operand.tmp 17), type := 0, pos := "slices.go:25", after := #[{ on := 0, ground := Ground.data }, { on := 1, ground := Ground.data }], guard := none }, { dst := some 19, op := Op.load 9 (Operand.tmp 18), type := 9, pos := "slices.go:25", after := #[{ on := 2, ground := Ground.data }], guard := none }, { dst := some 20, op := Op.move (Operand.tmp 1), type := 26, pos := "slices.go:25", after := #[], guard := none }, { dst := some 21, op := Op.move (Operand.tmp 5), type := 3, pos := "slices.go:25", after := #[], guard := none }, { dst := some 22, op := Op.indexAddr 26 (Operand.tmp 20) (Operand.tmp 21), type := 0, pos := "slices.go:25", after := #[{ on := 4, ground := Ground.data }, { on := 5, ground := Ground.data }], guard := none }, { dst := some 23, op := Op.load 9 (Operand.tmp 22), type := 9, pos := "slices.go:25", after := #[{ on := 6, ground := Ground.data }], guard := none }, { dst := some 24, op := Op.binOp BinOp.neq 9 (Operand.tmp 19) (Operand.tmp 23) 9, type := 4, pos := "slices.go:25", after := #[{ on := 3, ground := Ground.data }, { on := 7, ground := Ground.data }], guard := none }] true) Q { tmps := ((.slice (some ⟨b, o, none⟩) n c) :: (.slice (some ⟨b2, o2, none⟩) n2 c2) :: t2 :: t3 :: t4 :: (.int .i64 (j : Nat)) :: t6 :: t7 :: t8 :: t9 :: t10 :: t11 :: t12 :: t13 :: t14 :: t15 :: t16 :: t17 :: t18 :: t19 :: t20 :: t21 :: t22 :: t23 :: t24 :: t25 :: []).toArray, defers := [] } W := by
  have hS0 : W.drew.cell? ⟨b, o + j, none⟩ = some (.string s) ∧ W.drew.cell? ⟨b2, o2 + j, none⟩ = some (.string s2) := ⟨h1, h2⟩
  refine wp_region_held_drew (S := fun w' => w'.cell? ⟨b, o + j, none⟩ = some (.string s) ∧ w'.cell? ⟨b2, o2 + j, none⟩ = some (.string s2)) (by kernel_rfl) hS0 (fun hHeld => ?_)
  refine wpAnyH_take (i := 0) (v := .slice (some ⟨b, o, none⟩) n c) rfl (by kernel_rfl) (by kernel_rfl) (by kernel_rfl) (fun _ _ _ h => hp _ _ _ _ _ h) (Or.inl ⟨by rfl, ?_⟩) (by assumption) ?_
  · intro w hSw
    (try dsimp only at hSw)
    go_simp
  (try simp only [Act.put, List.getElem_toArray, List.getElem_cons_zero, List.setIfInBounds_toArray, List.set_cons_zero, List.set_cons_succ])
  refine wpAnyH_take (i := 1) (v := .int .i64 (j : Nat)) rfl (by kernel_rfl) (by kernel_rfl) (by kernel_rfl) (fun _ _ _ h => hp _ _ _ _ _ h) (Or.inl ⟨by rfl, ?_⟩) (by assumption) ?_
  · intro w hSw
    (try dsimp only at hSw)
    go_simp
  (try simp only [Act.put, List.getElem_toArray, List.getElem_cons_zero, List.getElem_cons_succ, List.setIfInBounds_toArray, List.set_cons_zero, List.set_cons_succ])
  refine wpAnyH_take (i := 2) (v := .pointer (some ⟨b, o + j, none⟩)) rfl (by kernel_rfl) (by kernel_rfl) (by kernel_rfl) (fun _ _ _ h => hp _ _ _ _ _ h) (Or.inl ⟨by rfl, ?_⟩) (by assumption) ?_
  · intro w hSw
    (try dsimp only at hSw)
    go_simp
  (try simp only [Act.put, List.getElem_toArray, List.getElem_cons_zero, List.getElem_cons_succ, List.setIfInBounds_toArray, List.set_cons_zero, List.set_cons_succ])
  refine wpAnyH_take (i := 3) (v := .string s) rfl (by kernel_rfl) (by kernel_rfl) (by kernel_rfl) (fun _ _ _ h => hp _ _ _ _ _ h) (Or.inl ⟨by rfl, ?_⟩) (by assumption) ?_
  · intro w hSw
    (try dsimp only at hSw)
    go_simp
  (try simp only [Act.put, List.getElem_toArray, List.getElem_cons_zero, List.getElem_cons_succ, List.setIfInBounds_toArray, List.set_cons_zero, List.set_cons_succ])
  refine wpAnyH_take (i := 4) (v := .slice (some ⟨b2, o2, none⟩) n2 c2) rfl (by kernel_rfl) (by kernel_rfl) (by kernel_rfl) (fun _ _ _ h => hp _ _ _ _ _ h) (Or.inl ⟨by rfl, ?_⟩) (by assumption) ?_
  · intro w hSw
    (try dsimp only at hSw)
    go_simp
  (try simp only [Act.put, List.getElem_toArray, List.getElem_cons_zero, List.getElem_cons_succ, List.setIfInBounds_toArray, List.set_cons_zero, List.set_cons_succ])
  refine wpAnyH_take (i := 5) (v := .int .i64 (j : Nat)) rfl (by kernel_rfl) (by kernel_rfl) (by kernel_rfl) (fun _ _ _ h => hp _ _ _ _ _ h) (Or.inl ⟨by rfl, ?_⟩) (by assumption) ?_
  · intro w hSw
    (try dsimp only at hSw)
    go_simp
  (try simp only [Act.put, List.getElem_toArray, List.getElem_cons_zero, List.getElem_cons_succ, List.setIfInBounds_toArray, List.set_cons_zero, List.set_cons_succ])
  refine wpAnyH_take (i := 6) (v := .pointer (some ⟨b2, o2 + j, none⟩)) rfl (by kernel_rfl) (by kernel_rfl) (by kernel_rfl) (fun _ _ _ h => hp _ _ _ _ _ h) (Or.inl ⟨by rfl, ?_⟩) (by assumption) ?_
  · intro w hSw
    (try dsimp only at hSw)
    go_simp
  (try simp only [Act.put, List.getElem_toArray, List.getElem_cons_zero, List.getElem_cons_succ, List.setIfInBounds_toArray, List.set_cons_zero, List.set_cons_succ])
  refine wpAnyH_take (i := 7) (v := .string s2) rfl (by kernel_rfl) (by kernel_rfl) (by kernel_rfl) (fun _ _ _ h => hp _ _ _ _ _ h) (Or.inl ⟨by rfl, ?_⟩) (by assumption) ?_
  · intro w hSw
    (try dsimp only at hSw)
    go_simp
  (try simp only [Act.put, List.getElem_toArray, List.getElem_cons_zero, List.getElem_cons_succ, List.setIfInBounds_toArray, List.set_cons_zero, List.set_cons_succ])
  refine wpAnyH_take (i := 8) (v := .bool q) rfl (by kernel_rfl) (by kernel_rfl) (by kernel_rfl) (fun _ _ _ h => hp _ _ _ _ _ h) (Or.inl ⟨by rfl, ?_⟩) (by assumption) ?_
  · intro w hSw
    (try dsimp only at hSw)
    go_simp
  (try simp only [Act.put, List.getElem_toArray, List.getElem_cons_zero, List.getElem_cons_succ, List.setIfInBounds_toArray, List.set_cons_zero, List.set_cons_succ])
  refine wpAnyH_done (by kernel_rfl) ?_ _
  exact h _ _ _ _ _ _ _ _ _ ((Below.refl W.heap.size W).drew)
theorem text_ext {a b : ByteArray} (h : a.toList = b.toList) : a = b := by
  rw [ByteArray.toList_eq, ByteArray.toList_eq] at h
  cases a; cases b; simpa using h
theorem text_ne {a b : ByteArray} (h : a ≠ b) : (a.toList != b.toList) = true := by
  rw [bne_iff_ne]; exact fun e => h (text_ext e)
set_option maxRecDepth 100000 in
set_option maxHeartbeats 1000000 in
theorem equalS_any (ss tt : List ByteArray) (a a2 : Option Addr) (c c2 : Nat) (w : World) (hin : SIn w ss a) (hin2 : SIn w tt a2) (hl : ss.length ≤ c) (hc : c ≤ maxLen) (hl2 : tt.length ≤ c2) :
    Calls Try.prog 105 #[.slice a ss.length c, .slice a2 tt.length c2] w fun r w' => r = .returned (.bool (decide (ss = tt))) ∧ Below w.heap.size w w' := by
  unfold maxLen at hc
  by_cases hlen : ss.length = tt.length
  · obtain ⟨N, hN⟩ : ∃ N, ss.length = N := ⟨_, rfl⟩
    have HN : Hid (ss.length = N) := hN
    have HN2 : Hid (tt.length = N) := hlen.symm.trans hN
    rw [← hlen, hN] at hl2 ⊢
    rw [hN] at hl
    clear hlen hN
    go_enter Try.func105, Try.ntmps105
    go_wp2_with fail
    go_loopw [13] (fun i wr => ∃ (j : Nat), i = .int .i64 j ∧ j ≤ N ∧ (∀ q, q < j → ss[q]? = tt[q]?) ∧ Below w.heap.size w wr) (fun i _ => N - (intOf i).toNat)
    case atStart => exact ⟨0, rfl, Nat.zero_le _, fun q hq => absurd hq (Nat.not_lt_zero _), Below.refl _ _⟩
    case round =>
      obtain ⟨j, rfl, hj, hP, hb⟩ := hrel
      have HP : Hid (∀ q, q < j → ss[q]? = tt[q]?) := hP
      clear hP
      by_cases hjn : j < N
      · have hlt : (j : Int) < (N : Int) := by omega
        obtain ⟨s, hs⟩ : ∃ s, ss[j]? = some s := ⟨ss[j]'(by rw [HN.out]; exact hjn), List.getElem?_eq_getElem _⟩
        obtain ⟨s2, hs2⟩ : ∃ s, tt[j]? = some s := ⟨tt[j]'(by rw [HN2.out]; exact hjn), List.getElem?_eq_getElem _⟩
        rcases hin with hin | ⟨b, o, rfl, hF⟩
        · rw [hin] at hs; simp at hs
        rcases hin2 with hin2 | ⟨b2, o2, rfl, hF2⟩
        · rw [hin2] at hs2; simp at hs2
        have h1 := ((hF.grow hb).at hs).1
        have h2 := ((hF2.grow hb).at hs2).1
        have HS : Hid (ss[j]? = some s ∧ tt[j]? = some s2) := ⟨hs, hs2⟩
        clear hs hs2 hF hF2
        by_cases he : s = s2
        · subst he
          go_wp2_with fail
          refine sq6 hlt hlt h1 h2 (q := false) (by simp) (fun _ d _ _ _ h => by cases d <;> exact h) ?_
          intro ws v16 v17 v18 v19 v20 v21 v22 v23 hb1
          have hb2 := hb.trans (hb1.mono hb.size)
          clear h1 h2 hb1 hb
          go_wp2_with fail
          go_round
          case rel =>
            refine ⟨j + 1, by go_num, by omega, fun q hq => ?_, hb2⟩
            by_cases e : q = j
            · rw [e, HS.out.1, HS.out.2]
            · exact HP.out q (by omega)
          case measure => simp [intOf]; omega
        · have hne := text_ne he
          have HR : Hid (decide (ss = tt) = false) := decide_eq_false fun e => he (by have := HS.out; rw [e] at this; exact Option.some.inj (this.1.symm.trans this.2))
          go_wp2_with fail
          refine sq6 hlt hlt h1 h2 (q := true) (by simpa using hne) (fun _ d _ _ _ h => by cases d <;> exact h) ?_
          intro ws v16 v17 v18 v19 v20 v21 v22 v23 hb1
          have hb2 := hb.trans (hb1.mono hb.size)
          clear h1 h2 hb1 hb hne
          go_wp2_with fail
          go_ret
          exact ⟨by rw [HR.out]; rfl, hb2⟩
      · have e : j = N := by omega
        subst e
        have HR : Hid (decide (ss = tt) = true) := decide_eq_true (List.ext_getElem? fun i => by
          by_cases hi : i < j
          · exact HP.out i hi
          · rw [List.getElem?_eq_none (by rw [HN.out]; omega), List.getElem?_eq_none (by rw [HN2.out]; omega)])
        clear hin hin2
        go_wp2_with fail
        go_ret
        exact ⟨by rw [HR.out]; rfl, hb⟩
  · have hne : ((ss.length : Int) != (tt.length : Int)) = true := by simp; omega
    have HR : Hid (decide (ss = tt) = false) := decide_eq_false fun e => hlen (by rw [e])
    rw [HR.out]
    obtain ⟨n1, h1⟩ : ∃ n1, ss.length = n1 := ⟨_, rfl⟩
    obtain ⟨n2, h2⟩ : ∃ n2, tt.length = n2 := ⟨_, rfl⟩
    rw [h1, h2] at hne hlen ⊢
    have hlen' : ¬ (n1 : Int) = (n2 : Int) := by omega
    clear hin hin2 h1 h2 HR
    go_enter Try.func105, Try.ntmps105
    go_wp2_with fail
    go_ret
    exact ⟨rfl, Below.refl _ _⟩
end Go.Proofs.Ytfgchdnpbbgmjaa
/- Contracts over values: the laws' own copy of a value, in cells that were never shared with a text. -/
namespace Go.Proofs.Ytfgchdnpbbgmjaa
open Go.RowKit
attribute [local go_sem] cell_alloc_is frozen_alloc_is
theorem valInfo : (Try.prog.info? 28).map (fun i => (i.zero, i.size, i.bytes)) = some (some (.agg #[.int .i64 0, .int .i64 0, .int .i64 0, .string ⟨#[]⟩, .slice none 0 0, .slice none 0 0]), 6, 88) := by kernel_rfl
/-- a value is written -/
def put6 (w : World) (nb o : Nat) (v0 v1 v2 v3 v4 v5 : Value) : World := (((((w.setCell ⟨nb, o, none⟩ v0).setCell ⟨nb, o + 1, none⟩ v1).setCell ⟨nb, o + 2, none⟩ v2).setCell ⟨nb, o + 3, none⟩ v3).setCell ⟨nb, o + 4, none⟩ v4).setCell ⟨nb, o + 5, none⟩ v5
theorem put6_eq (w : World) (nb o : Nat) (v0 v1 v2 v3 v4 v5 : Value) : put6 w nb o v0 v1 v2 v3 v4 v5 = putN w nb o [v0, v1, v2, v3, v4, v5] := rfl
theorem put6_other {w : World} {nb o b o' : Nat} {v0 v1 v2 v3 v4 v5 : Value} (h : ¬ b = nb ∨ o' < o ∨ o + 6 ≤ o') : (put6 w nb o v0 v1 v2 v3 v4 v5).cell? ⟨b, o', none⟩ = w.cell? ⟨b, o', none⟩ := by
  rw [put6_eq]; exact putN_other h
theorem put6_cell {w : World} {nb o : Nat} {v0 v1 v2 v3 v4 v5 : Value} (h : ∀ q, q < 6 → ∃ u, w.cell? ⟨nb, o + q, none⟩ = some u) {i : Nat} {v : Value} (hi : ([v0, v1, v2, v3, v4, v5] : List Value)[i]? = some v) : (put6 w nb o v0 v1 v2 v3 v4 v5).cell? ⟨nb, o + i, none⟩ = some v := by
  rw [put6_eq]; exact putN_cell h hi
theorem put6_size {w : World} {nb o : Nat} {v0 v1 v2 v3 v4 v5 : Value} : (put6 w nb o v0 v1 v2 v3 v4 v5).heap.size = w.heap.size := by rw [put6_eq]; exact putN_size
theorem put6_below {B nb o : Nat} {a w : World} (h : Below B a w) (hb : B ≤ nb) (v0 v1 v2 v3 v4 v5 : Value) : Below B a (put6 w nb o v0 v1 v2 v3 v4 v5) := by rw [put6_eq]; exact putN_below hb h
theorem Clean.put6 {n : Nat} {w : World} (h : Clean n w) (nb o : Nat) (v0 v1 v2 v3 v4 v5 : Value) : Clean n (put6 w nb o v0 v1 v2 v3 v4 v5) := (((((h.setCell _ _).setCell _ _).setCell _ _).setCell _ _).setCell _ _).setCell _ _
theorem RoomN.put6 {w : World} {nb n : Nat} (h : RoomN w nb n) (b o : Nat) (v0 v1 v2 v3 v4 v5 : Value) : RoomN (put6 w b o v0 v1 v2 v3 v4 v5) nb n := by rw [put6_eq]; exact h.putN
/-- a value's names in another place -/
def Hd.to (h : Hd) (b : Nat) : Hd := ⟨h.k, h.m, h.e, h.t, some ⟨b, 0, none⟩, h.ns.length, h.ns⟩
end Go.Proofs.Ytfgchdnpbbgmjaa
/- A map of texts and numbers, as it is made of a literal and looked into. -/
namespace Go.Proofs.Ytfgchdnpbbgmjaa
open Go.RowKit
/-- the entries of a map, born one after the other -/
def ents : List (ByteArray × Int) → Nat → List MapEntry
  | [], _ => []
  | (s, v) :: t, n => { key := .string s, val := .int .i64 v, born := n } :: ents t (n + 1)
/-- block b is that map -/
def IsMap (w : World) (b : Nat) (L : List (ByteArray × Int)) : Prop := w.heap[b]? = some (.map (ents L 0).toArray L.length)
theorem IsMap.grown {w w' : World} {b : Nat} {L : List (ByteArray × Int)} (h : IsMap w b L) (hb : Below w.heap.size w w') : IsMap w' b L := by
  have hlt := (Array.getElem?_eq_some_iff.1 h).1
  exact (hb.block b hlt).trans h
end Go.Proofs.Ytfgchdnpbbgmjaa
/- Maps whose keys are places of lists: when two keys are the same. -/
namespace Go.Proofs.Ytfgchdnpbbgmjaa
open Go.RowKit
/-- where a list lies: nowhere, if it is empty -/
abbrev Pl := Option Addr × Nat
/-- it lies in cells that are not frozen -/
def PlOk (w : World) (p : Pl) : Prop := p.1 = none ∨ ∃ a cs t, p.1 = some a ∧ w.heap[a.block]? = some (.cells cs t (0, 0))
/-- where two lists lie -/
abbrev Pl2 := Pl × Pl
/-- a map of keys that can be held against each other -/
structure Keys (K : Type) [DecidableEq K] (P : Program) (kt : TypeId) where
  kv : K → Value
  ok : World → K → Prop
  wide : (match P.underlying kt with | some (.array _ _) | some (.struct _) => true | _ => false) = true
  eq : ∀ w x y, ok w x → ok w y → (Op.equal kt (kv x) (kv y)).run P w = .ok (decide (x = y)) w
  check : ∀ w em x, (Instr.checkKey em 10000 kt (kv x)).run P w = .ok () w
  bits : ∀ x, Instr.sameBits 10000 (kv x) (kv x) = true
section
variable {K : Type} [DecidableEq K] {P : Program} {kt : TypeId} (Q : Keys K P kt)
/-- block b is the map of these keys and values -/
def Keys.Is (w : World) (b : Nat) (L : List (K × Value)) : Prop := ∃ es clock, w.heap[b]? = some (.map es clock) ∧ es.toList.map (fun e => (e.key, e.val)) = L.map (fun p => (Q.kv p.1, p.2))
def seekL (x : K) : List (K × Value) → Nat → Option (Nat × Value)
  | [], _ => none
  | (k, v) :: t, i => if x = k then some (i, v) else seekL x t (i + 1)
def getL (x : K) : List (K × Value) → Option Value
  | [] => none
  | (k, v) :: t => if x = k then some v else getL x t
def putL (x : K) (v : Value) : List (K × Value) → List (K × Value)
  | [] => [(x, v)]
  | (k, u) :: t => if x = k then (x, v) :: t else (k, u) :: putL x v t
theorem seekL_get (x : K) : ∀ (L : List (K × Value)) (i : Nat), (seekL x L i).map Prod.snd = getL x L := by
  intro L
  induction L with
  | nil => intro i; rfl
  | cons p t ih =>
    obtain ⟨k, v⟩ := p
    intro i
    unfold seekL getL
    split
    · rfl
    · exact ih (i + 1)
theorem getL_put (x y : K) (v : Value) : ∀ (L : List (K × Value)), getL y (putL x v L) = if y = x then some v else getL y L := by
  intro L
  induction L with
  | nil => unfold putL getL; split <;> simp_all [getL]
  | cons p t ih =>
    obtain ⟨k, u⟩ := p
    unfold putL
    by_cases h : x = k
    · subst h
      rw [if_pos rfl]
      show (if y = x then some v else getL y t) = if y = x then some v else (if y = x then some u else getL y t)
      by_cases h2 : y = x <;> simp [h2]
    · rw [if_neg h]
      show (if y = k then some u else getL y (putL x v t)) = if y = x then some v else (if y = k then some u else getL y t)
      rw [ih]
      by_cases h2 : y = k
      · subst h2; rw [if_pos rfl, if_neg (fun e => h e.symm), if_pos rfl]
      · rw [if_neg h2, if_neg h2]
theorem Keys.asking (w : World) (x : K) (hx : Q.ok w x) : ∀ (L : List (K × Value)) (es : List MapEntry) (i : Nat), (∀ p ∈ L, Q.ok w p.1) → es.map (fun e => (e.key, e.val)) = L.map (fun p => (Q.kv p.1, p.2)) → (Instr.findAsking kt (Q.kv x) es i).run P w = .ok (seekL x L i) w := by
  intro L
  induction L with
  | nil =>
    intro es i _ h
    have : es = [] := by cases es with | nil => rfl | cons e es => simp at h
    subst this
    simp [Instr.findAsking, seekL]
  | cons p t ih =>
    obtain ⟨k, v⟩ := p
    intro es i hok h
    cases es with
    | nil => simp at h
    | cons e es =>
      simp only [List.map_cons, List.cons.injEq, Prod.mk.injEq] at h
      obtain ⟨⟨h1, h2⟩, h3⟩ := h
      have he := Q.eq w x k hx (hok (k, v) List.mem_cons_self)
      rw [← h1] at he
      have hi := ih es (i + 1) (fun p hp => hok p (List.mem_cons_of_mem _ hp)) h3
      by_cases hk : x = k
      · subst hk
        rw [decide_eq_true rfl] at he
        simp [Instr.findAsking, he, seekL, h2]
      · have hd : decide (x = k) = false := decide_eq_false hk
        rw [hd] at he
        simp [Instr.findAsking, he, seekL, hk, hi]
theorem Keys.find (w : World) (x : K) (hx : Q.ok w x) (L : List (K × Value)) (es : List MapEntry) (hok : ∀ p ∈ L, Q.ok w p.1) (h : es.map (fun e => (e.key, e.val)) = L.map (fun p => (Q.kv p.1, p.2))) :
    (Instr.findKey kt (Q.kv x) es).run P w = .ok (seekL x L 0) w := by
  rw [run_findKey_eq w Q.wide]
  exact Q.asking w x hx L es 0 hok h
theorem seekL_some {x : K} : ∀ {L : List (K × Value)} {i j : Nat} {v : Value}, seekL x L i = some (j, v) → ∃ n u, j = i + n ∧ L[n]? = some (x, u) ∧ ∀ w, putL x w L = L.set n (x, w) := by
  intro L
  induction L with
  | nil => intro i j v h; cases h
  | cons p t ih =>
    obtain ⟨k, u⟩ := p
    intro i j v h
    unfold seekL at h
    by_cases hk : x = k
    · rw [if_pos hk] at h
      cases h
      subst hk
      exact ⟨0, _, rfl, rfl, fun w => by unfold putL; rw [if_pos rfl]; rfl⟩
    · rw [if_neg hk] at h
      obtain ⟨n, u', e1, e2, e3⟩ := ih h
      exact ⟨n + 1, u', by omega, by simpa using e2, fun w => by unfold putL; rw [if_neg hk, e3 w]; rfl⟩
theorem seekL_none {x : K} : ∀ {L : List (K × Value)} {i : Nat}, seekL x L i = none → ∀ w, putL x w L = L ++ [(x, w)] := by
  intro L
  induction L with
  | nil => intro i _ w; rfl
  | cons p t ih =>
    obtain ⟨k, u⟩ := p
    intro i h w
    unfold seekL at h
    by_cases hk : x = k
    · rw [if_pos hk] at h; cases h
    · rw [if_neg hk] at h
      unfold putL
      rw [if_neg hk, ih h w]; rfl
theorem Keys.put {mty et : TypeId} (hm : P.underlying mty = some (.map kt et)) {w : World} {b : Nat} {L : List (K × Value)} (x : K) (v : Value) (hx : Q.ok w x) (hok : ∀ p ∈ L, Q.ok w p.1) (hb : Q.Is w b L) :
    ∃ w', (Instr.mapUpdate mty (.map (some b)) (Q.kv x) v).run P w = .ok () w' ∧ Q.Is w' b (putL x v L) ∧ w.grownBy w' (some b) ∧ w'.heap.size = w.heap.size := by
  obtain ⟨es, clock, hh, he⟩ := hb
  have hf := Q.find w x hx L es.toList hok he
  have hlt := (Array.getElem?_eq_some_iff.1 hh).1
  cases h : seekL x L 0 with
  | none =>
    rw [h] at hf
    refine ⟨_, by simp [Instr.mapUpdate, run_underlying hm, MapKept.run_getObj_map hh, Q.check, hf, MapKept.run_setObj_map _ hh, Result.andThen]; rfl, ?_, ?_, by simp⟩
    · refine ⟨_, _, (MapKept.heap_set hh).1, ?_⟩
      rw [seekL_none h, Array.toList_push, List.map_append, he, List.map_append]
      rfl
    · exact ⟨rfl, rfl, rfl, by simp, fun i _ hi => (MapKept.heap_set hh).2 i (fun e => hi (by rw [e]))⟩
  | some p =>
    obtain ⟨j, u⟩ := p
    rw [h] at hf
    obtain ⟨n, u', e1, e2, e3⟩ := seekL_some h
    rw [Nat.zero_add] at e1
    subst e1
    have hkey : (es[j]?).map (·.key) = some (Q.kv x) := by
      have h1 : (es.toList.map (fun e => (e.key, e.val)))[j]? = some (Q.kv x, u') := by rw [he, List.getElem?_map, e2]; rfl
      rw [List.getElem?_map, Array.getElem?_toList] at h1
      cases hj : es[j]? with
      | none => rw [hj] at h1; cases h1
      | some e => rw [hj] at h1; simp only [Option.map_some, Option.some.injEq, Prod.mk.injEq] at h1; simp [h1.1]
    have hks : (Instr.keyThatStays (((es[j]?).map (·.key)).getD (Q.kv x)) (Q.kv x)).run P w = .ok (Q.kv x) w := by
      rw [hkey]
      simp [Instr.keyThatStays, Q.bits]
    refine ⟨_, by simp [Instr.mapUpdate, run_underlying hm, MapKept.run_getObj_map hh, Q.check, hf, hks, MapKept.run_setObj_map _ hh, Result.andThen]; rfl, ?_, ?_, by simp⟩
    · refine ⟨_, _, (MapKept.heap_set hh).1, ?_⟩
      rw [e3 v]
      apply List.ext_getElem?
      intro i
      have hi : (es.toList.map (fun e => (e.key, e.val)))[i]? = (L.map (fun p => (Q.kv p.1, p.2)))[i]? := by rw [he]
      rw [List.getElem?_map, List.getElem?_map, Array.getElem?_toList] at hi
      rw [List.getElem?_map, List.getElem?_map, Array.getElem?_toList, Array.getElem?_modify, List.getElem?_set]
      by_cases hij : j = i
      · subst hij
        have hl : j < L.length := (List.getElem?_eq_some_iff.1 e2).1
        rw [if_pos rfl, if_pos rfl, if_pos hl]
        cases hj : es[j]? with
        | none => rw [hj] at hkey; cases hkey
        | some e => rfl
      · rw [if_neg hij, if_neg hij]; exact hi
    · exact ⟨rfl, rfl, rfl, by simp, fun i _ hi => (MapKept.heap_set hh).2 i (fun e => hi (by rw [e]))⟩
theorem Keys.Is.grown {w w' : World} {b : Nat} {L : List (K × Value)} (h : Q.Is w b L) (hb : w'.heap[b]? = w.heap[b]?) : Q.Is w' b L := by
  obtain ⟨es, clock, hh, he⟩ := h
  exact ⟨es, clock, hb.trans hh, he⟩
end
end Go.Proofs.Ytfgchdnpbbgmjaa
/- Plain mathematics of chapter 2: letters, figures, runs, names, words. -/
namespace Go.Proofs.Ytfgchdnpbbgmjaa.Qm

def low (c : Int) : Bool := (decide (97 ≤ c) && decide (c ≤ 122)) || decide (c = 95)
def fig (c : Int) : Bool := decide (48 ≤ c) && decide (c ≤ 57)
def part (c : Int) : Bool := low c || fig c
def okAt (k : Nat) (c : Int) : Bool := low c || (decide (k ≠ 0) && fig c)
def letters : Nat → List UInt8 → Bool
  | _, [] => true
  | k, c :: t => okAt k c.toNat && letters (k + 1) t
def run (p : Int → Bool) : List UInt8 → Nat
  | [] => 0
  | c :: t => if p c.toNat then 1 + run p t else 0
/-- the words that are no names -/
def words : List (List UInt8) := [[110, 117, 108, 108], [116, 114, 117, 101], [102, 97, 108, 115, 101], [105, 102], [116, 104, 101, 110], [101, 108, 115, 101], [108, 111, 99, 97, 108], [102, 117, 110, 99, 116, 105, 111, 110], [115, 101, 108, 102], [115, 117, 112, 101, 114], [101, 114, 114, 111, 114], [105, 109, 112, 111, 114, 116], [102, 111, 114], [105, 110], [115, 116, 100]]
def has : List (List UInt8) → List UInt8 → Bool
  | [], _ => false
  | x :: t, l => (l == x) || has t l
def name (s : ByteArray) : Bool := letters 0 s.data.toList && (decide (1 ≤ s.size) && decide (s.size ≤ 12)) && !has words s.toList

theorem len_eq (s : ByteArray) : s.data.toList.length = s.size := by rw [Array.length_toList]; rfl
theorem drop_at (s : ByteArray) (k : Nat) (h : k < s.size) : s.data.toList.drop k = s[k] :: s.data.toList.drop (k + 1) := by
  rw [List.drop_eq_getElem_cons (by simpa using h)]; rfl
theorem drop_end (s : ByteArray) (k : Nat) (h : ¬ k < s.size) : s.data.toList.drop k = [] := by
  apply List.drop_eq_nil_of_le; simpa using h
theorem letters_step (s : ByteArray) (k : Nat) (h : k < s.size) : letters k (s.data.toList.drop k) = (okAt k s[k].toNat && letters (k + 1) (s.data.toList.drop (k + 1))) := by
  rw [drop_at s k h]; rfl
theorem run_step (p : Int → Bool) (s : ByteArray) (k : Nat) (h : k < s.size) : run p (s.data.toList.drop k) = if p s[k].toNat then 1 + run p (s.data.toList.drop (k + 1)) else 0 := by
  rw [drop_at s k h]; rfl
theorem run_end (p : Int → Bool) (s : ByteArray) (k : Nat) (h : ¬ k < s.size) : run p (s.data.toList.drop k) = 0 := by
  rw [drop_end s k h]; rfl
theorem run_le (p : Int → Bool) (l : List UInt8) : run p l ≤ l.length := by
  induction l with
  | nil => exact Nat.le_refl _
  | cons c t ih => simp only [run, List.length_cons]; split <;> omega
theorem run_iff (p : Int → Bool) (l : List UInt8) : run p l = l.length ↔ l.all (fun c => p c.toNat) = true := by
  induction l with
  | nil => simp [run]
  | cons c t ih =>
    have := run_le p t
    by_cases h : p c.toNat = true
    · have e : run p (c :: t) = 1 + run p t := by simp [run, h]
      rw [e, List.all_cons, h, Bool.true_and, ← ih, List.length_cons]; omega
    · have e : run p (c :: t) = 0 := by simp [run, h]
      rw [e, List.all_cons, Bool.eq_false_iff.2 h]; simp
theorem run_all (p : Int → Bool) (l : List UInt8) : decide (run p l = l.length) = l.all (fun c => p c.toNat) := by
  rw [Bool.eq_iff_iff, decide_eq_true_iff]; exact run_iff p l
theorem letters_succ (k : Nat) (l : List UInt8) : letters (k + 1) l = l.all (fun c => part c.toNat) := by
  induction l generalizing k with
  | nil => rfl
  | cons c t ih => simp only [letters, List.all_cons, ih (k + 1)]; simp [okAt, part]
theorem letters_part (c : UInt8) (t : List UInt8) : letters 0 (c :: t) = (low c.toNat && decide (run part (c :: t) = (c :: t).length)) := by
  rw [run_all]; simp only [letters, letters_succ, List.all_cons]
  simp [okAt, part]
  cases low c.toNat <;> simp
/-- how the program asks it -/
theorem name_eq (s : ByteArray) (h : 0 < s.size) : name s = (decide (s.size ≤ 12) && (low s[0].toNat && (decide (run part s.data.toList = s.size) && !has words s.toList))) := by
  unfold name
  have e : s.data.toList = s[0] :: s.data.toList.drop 1 := by have := drop_at s 0 h; simpa using this
  have e1 : letters 0 s.data.toList = (low s[0].toNat && decide (run part s.data.toList = s.size)) := by
    have h2 := letters_part s[0] (s.data.toList.drop 1)
    rw [← e] at h2
    rw [h2]; simp
  rw [e1]
  have h1 : decide (1 ≤ s.size) = true := decide_eq_true h
  rw [h1]
  cases decide (s.size ≤ 12) <;> cases low s[0].toNat <;> cases decide (run part s.data.toList = s.size) <;> simp
theorem name_none (s : ByteArray) (h : ¬ 0 < s.size) : name s = false := by
  unfold name
  have : decide (1 ≤ s.size) = false := by simpa using h
  rw [this]; simp
theorem name_long (s : ByteArray) (h : ¬ s.size ≤ 12) : name s = false := by
  unfold name
  have : decide (s.size ≤ 12) = false := by simpa using h
  rw [this]; simp
theorem has_drop (L : List (List UInt8)) (l : List UInt8) (k : Nat) (h : k < L.length) : has (L.drop k) l = ((l == L[k]) || has (L.drop (k + 1)) l) := by
  rw [List.drop_eq_getElem_cons h]; rfl
theorem has_end (L : List (List UInt8)) (l : List UInt8) (k : Nat) (h : ¬ k < L.length) : has (L.drop k) l = false := by
  rw [List.drop_eq_nil_of_le (by omega)]; rfl
end Go.Proofs.Ytfgchdnpbbgmjaa.Qm
/- Which trees are ok: plain mathematics over lists of trees. -/
namespace Go.Proofs.Ytfgchdnpbbgmjaa
/-- what stands at a place of a list -/
def Fo.kindAt : Fo → Nat → Int
  | .nil, _ => 0
  | .cons k _ _ _ _ _ _ _, 0 => k
  | .cons _ _ _ _ _ _ _ next, i + 1 => next.kindAt i
def Fo.textAt : Fo → Nat → ByteArray
  | .nil, _ => ⟨#[]⟩
  | .cons _ t _ _ _ _ _ _, 0 => t
  | .cons _ _ _ _ _ _ _ next, i + 1 => next.textAt i
def Fo.manAt : Fo → Nat → Int
  | .nil, _ => 0
  | .cons _ _ m _ _ _ _ _, 0 => m
  | .cons _ _ _ _ _ _ _ next, i + 1 => next.manAt i
def Fo.expAt : Fo → Nat → Int
  | .nil, _ => 0
  | .cons _ _ _ e _ _ _ _, 0 => e
  | .cons _ _ _ _ _ _ _ next, i + 1 => next.expAt i
def Fo.addrAt : Fo → Nat → Option Addr
  | .nil, _ => none
  | .cons _ _ _ _ a _ _ _, 0 => a
  | .cons _ _ _ _ _ _ _ next, i + 1 => next.addrAt i
def Fo.capAt : Fo → Nat → Nat
  | .nil, _ => 0
  | .cons _ _ _ _ _ c _ _, 0 => c
  | .cons _ _ _ _ _ _ _ next, i + 1 => next.capAt i
def Fo.kidsAt : Fo → Nat → Fo
  | .nil, _ => .nil
  | .cons _ _ _ _ _ _ kids _, 0 => kids
  | .cons _ _ _ _ _ _ _ next, i + 1 => next.kidsAt i
theorem Fo.from_at : ∀ {F : Fo} {w : World} {b o i : Nat}, F.From w b o → i < F.len →
    (w.cell? ⟨b, o + i * 5, none⟩ = some (.int .i64 (F.kindAt i)) ∧ w.cell? ⟨b, o + i * 5 + 1, none⟩ = some (.string (F.textAt i)) ∧ w.cell? ⟨b, o + i * 5 + 2, none⟩ = some (.int .i64 (F.manAt i)) ∧ w.cell? ⟨b, o + i * 5 + 3, none⟩ = some (.int .i64 (F.expAt i)) ∧
      w.cell? ⟨b, o + i * 5 + 4, none⟩ = some (.slice (F.addrAt i) (F.kidsAt i).len (F.capAt i))) ∧ (F.kidsAt i).In w (F.addrAt i) ∧ (F.kidsAt i).len ≤ F.capAt i ∧ F.capAt i ≤ maxLen ∧ (F.textAt i).size ≤ maxLen := by
  intro F
  induction F with
  | nil => intro w b o i _ h; exact absurd h (Nat.not_lt_zero _)
  | cons k t m e a c kids next _ ih =>
    rintro w b o i ⟨hc, hk, h1, h2, h3, hn⟩ hi
    cases i with
    | zero => simp only [Nat.zero_mul, Nat.add_zero]; exact ⟨hc, hk, h1, h2, h3⟩
    | succ i =>
      have := ih hn (show i < next.len from Nat.lt_of_succ_lt_succ hi)
      rw [show o + 5 + i * 5 = o + (i + 1) * 5 by omega] at this
      exact this
theorem Fo.size_at : ∀ {F : Fo} {i : Nat}, i < F.len → (F.kidsAt i).size < F.size := by
  intro F
  induction F with
  | nil => intro i h; exact absurd h (Nat.not_lt_zero _)
  | cons k t m e a c kids next _ ih =>
    intro i hi
    cases i with
    | zero => show kids.size < kids.size + 1 + next.size; omega
    | succ i => have := ih (show i < next.len from Nat.lt_of_succ_lt_succ hi); show (next.kidsAt i).size < kids.size + 1 + next.size; omega
/-- of the first n how many are of a kind -/
def Fo.cnt (F : Fo) (q : Int) : Nat → Nat
  | 0 => 0
  | n + 1 => F.cnt q n + (if F.kindAt n = q then 1 else 0)
theorem Fo.cnt_le (F : Fo) (q : Int) (n : Nat) : F.cnt q n ≤ n := by
  induction n with
  | zero => exact Nat.le_refl _
  | succ n ih => show F.cnt q n + (if F.kindAt n = q then 1 else 0) ≤ n + 1; split <;> omega
/-- the text at a place is none of those ahead of it -/
def Fo.newAt (F : Fo) (i : Nat) : Nat → Bool
  | 0 => true
  | j + 1 => F.newAt i j && !((F.textAt i).toList == (F.textAt j).toList)
/-- of the first n no two have one text -/
def Fo.dist (F : Fo) : Nat → Bool
  | 0 => true
  | n + 1 => F.dist n && F.newAt n n
namespace Om
def std1 : List (List UInt8) := [[108, 101, 110, 103, 116, 104], [107, 101, 121, 115], [116, 101, 120, 116], [116, 121, 112, 101], [115, 111, 114, 116], [114, 97, 110, 103, 101]]
def std2 : List (List UInt8) := [[109, 97, 112], [102, 105, 108, 116, 101, 114], [106, 111, 105, 110], [104, 97, 115]]
def std3 : List (List UInt8) := [[102, 111, 108, 100]]
/-- how many a function that is there from the beginning is given -/
def std (l : List UInt8) : Nat := if Qm.has std1 l then 1 else if Qm.has std2 l then 2 else if Qm.has std3 l then 3 else 0
/-- signs between two -/
def signs : List (List UInt8) := [[124, 124], [38, 38], [61, 61], [33, 61], [60], [60, 61], [62], [62, 61], [43], [45], [42], [47], [37]]
/-- how many a kind has below, at least and at most -/
def low (k : Int) : Nat := if k = 10 ∨ k = 11 ∨ k = 12 ∨ k = 18 then 1 else if k = 13 ∨ k = 15 ∨ k = 19 ∨ k = 21 then 2 else if k = 14 then 3 else if k = 16 ∨ k = 17 then 1 else 0
/-- the sort of text: 0 none, 1 short, 2 a name, 3 a sign, 4 a function -/
def sort (k : Int) : Nat := if k = 5 then 1 else if k = 6 ∨ k = 8 ∨ k = 18 ∨ k = 15 ∨ k = 21 ∨ k = 9 ∨ k = 23 then 2 else if k = 13 then 3 else if k = 24 then 4 else 0
def textOf (q : Nat) (t : ByteArray) : Bool := if q = 1 then decide (t.size ≤ 1500) else if q = 2 then Qm.name t else if q = 3 then Qm.has signs t.toList else if q = 4 then decide (0 < std t.toList) else (t.toList == [])
/-- what is right below is as the kind asks -/
def below (k : Int) (t : ByteArray) (F : Fo) : Bool :=
  if k = 22 then decide (F.cnt 23 F.len = F.len) && F.dist F.len
  else if k = 16 then decide (F.cnt 6 (F.len - 1) = F.len - 1) && (F.dist (F.len - 1) && decide (F.cnt 23 F.len = 0))
  else if k = 24 then decide (std t.toList = F.len) && decide (F.cnt 23 F.len = 0)
  else decide (F.cnt 23 F.len = 0)
end Om
end Go.Proofs.Ytfgchdnpbbgmjaa
/- The iterator over a tree and all below it. -/
namespace Go.Proofs.Ytfgchdnpbbgmjaa
open Go.RowKit Go.Shelf
attribute [local go_sem] Oper.semAt_some

/-- the trees of a list and all below, each ahead of those below it, with how deep it stands -/
def Fo.flat : Fo → Nat → List (Nat × Int × ByteArray × Int × Int × Fo)
  | .nil, _ => []
  | .cons k t m e _ _ kids next, d => (d, k, t, m, e, kids) :: (kids.flat (d + 1) ++ next.flat d)
theorem Fo.flat_len : ∀ (F : Fo) (d : Nat), (F.flat d).length = F.size := by
  intro F
  induction F with
  | nil => intro d; rfl
  | cons k t m e a c kids next ih1 ih2 => intro d; show ((d, k, t, m, e, kids) :: (kids.flat (d + 1) ++ next.flat d)).length = kids.size + 1 + next.size; simp [ih1, ih2]; omega
/-- whatever lies in the one world lies in the other -/
def Sub (w W : World) : Prop := ∀ b o v, w.cell? ⟨b, o, none⟩ = some v → W.cell? ⟨b, o, none⟩ = some v
theorem Fo.from_sub {w w' : World} (h : Sub w w') : ∀ (F : Fo) (b o : Nat), F.From w b o → F.From w' b o := by
  intro F
  induction F with
  | nil => intro b o _; trivial
  | cons k t m e a c kids next ih1 ih2 =>
    rintro b o ⟨⟨h1, h2, h3, h4, h5⟩, hk, hc, hm, ht, hn⟩
    refine ⟨⟨h _ _ _ h1, h _ _ _ h2, h _ _ _ h3, h _ _ _ h4, h _ _ _ h5⟩, ?_, hc, hm, ht, ih2 _ _ hn⟩
    rcases hk with hk | ⟨b', o', e1, e2⟩
    · exact .inl hk
    · exact .inr ⟨b', o', e1, ih1 _ _ e2⟩
theorem Fo.In.sub {w w' : World} {F : Fo} {a : Option Addr} (hF : F.In w a) (h : Sub w w') : F.In w' a := by
  rcases hF with rfl | ⟨b, o, rfl, hF⟩
  · exact .inl rfl
  · exact .inr ⟨b, o, rfl, Fo.from_sub h F b o hF⟩
/-- what a round keeps: the cells that lay ahead of the caller, and those that were made since the loop began -/
def Kept (n0 n1 : Nat) (W W' : World) : Prop := W.heap.size ≤ W'.heap.size ∧ ∀ j o, W.heap[j]? = some o → o.isCells = true → (j < n0 ∨ n1 ≤ j) → W'.heap[j]? = some o
theorem Kept.refl (n0 n1 : Nat) (W : World) : Kept n0 n1 W W := ⟨Nat.le_refl _, fun _ _ h _ _ => h⟩
theorem Kept.trans {n0 n1 : Nat} {A B C : World} (h : Kept n0 n1 A B) (k : Kept n0 n1 B C) : Kept n0 n1 A C := ⟨Nat.le_trans h.1 k.1, fun j o ho hc hj => k.2 j o (h.2 j o ho hc hj) hc hj⟩
theorem Kept.of_below {n0 n1 : Nat} {W W' : World} (h : Below W.heap.size W W') : Kept n0 n1 W W' := ⟨h.size, fun j _ ho _ _ => (h.block j (Array.getElem?_eq_some_iff.1 ho).1).trans ho⟩
theorem cells_of_cell {W : World} {b o : Nat} {v : Value} (h : W.cell? ⟨b, o, none⟩ = some v) : ∃ x, W.heap[b]? = some x ∧ x.isCells = true := by
  have hlt := World.block_lt_of_cell? W _ h
  refine ⟨W.heap[b]'hlt, Array.getElem?_eq_getElem hlt, ?_⟩
  have hb : W.heap[b]? = some (W.heap[b]'hlt) := Array.getElem?_eq_getElem hlt
  unfold World.cell? at h
  rw [hb] at h
  cases hx : W.heap[b]'hlt <;> simp_all [Obj.isCells]
theorem Kept.cell {n0 n1 : Nat} {W W' : World} (h : Kept n0 n1 W W') {b o : Nat} {v : Value} (hv : W.cell? ⟨b, o, none⟩ = some v) (hb : b < n0 ∨ n1 ≤ b) : W'.cell? ⟨b, o, none⟩ = some v := by
  obtain ⟨x, hx, hc⟩ := cells_of_cell hv
  exact (World.cell?_of_block ((h.2 b x hx hc hb).trans hx.symm)).trans hv
theorem Kept.sub {n0 n1 : Nat} {w W W' : World} (h : Kept n0 n1 W W') (hs : Sub w W) (hn : w.heap.size ≤ n0) : Sub w W' := fun b o v hv =>
  h.cell (hs b o v hv) (.inl (Nat.lt_of_lt_of_le (World.block_lt_of_cell? w _ hv) hn))
theorem Sub.of_below {w W : World} (h : Below w.heap.size w W) : Sub w W := fun b o _ hv => (h.cell (p := ⟨b, o, none⟩) (World.block_lt_of_cell? w _ hv)).trans hv
/-- a tree that is told, with how deep it stands; what is below it lies in the world w -/
structure TI (w : World) where
  d : Nat
  k : Int
  t : ByteArray
  m : Int
  e : Int
  a : Option Addr
  kids : Fo
  c : Nat
  hin : kids.In w a
  hl : kids.len ≤ c
  hc : c ≤ maxLen
  ht : t.size ≤ maxLen
def TI.raw {w : World} (x : TI w) : Nat × Int × ByteArray × Int × Int × Fo := (x.d, x.k, x.t, x.m, x.e, x.kids)
def TI.enc {w : World} (x : TI w) : Array Value := #[.int .i64 x.d, .agg #[.int .i64 x.k, .string x.t, .int .i64 x.m, .int .i64 x.e, .slice x.a x.kids.len x.c]]

theorem room_none {F : Fence} (hd : F.depth = none) (k : Nat) : F.room k := fun d h => by rw [hd] at h; cases h
theorem roundIn_any {F : Fence} (hd : F.depth = none) {m m' : Nat} {P : Program} {l : Nat} {f : FuncId} {tmps : Array Value} {assign body : Code} {w : World} {R : Ending → World → Prop}
    (h : RoundIn F m P l f tmps assign body w R) : RoundIn F m' P l f tmps assign body w R := ⟨h.1, fun c cs _ => h.2 c cs (room_none hd _)⟩
theorem yieldAt_any {F : Fence} (hd : F.depth = none) {m : Nat} (m' : Nat) {P : Program} {l : Nat} {args : Array Value} {W : World} {R : Ending → World → Prop} (h : YieldAt F m P l args W R) : YieldAt F m' P l args W R := by
  obtain ⟨fn, tmps, assign, body, hy, hR⟩ := h
  exact ⟨fn, tmps, assign, body, hy, roundIn_any hd hR⟩
theorem grown_below {W W' : World} (h : Below W.heap.size W W') : W.grownBy W' none := ⟨h.os, h.tape, h.output, h.size, fun k hk _ => h.block k hk⟩

end Go.Proofs.Ytfgchdnpbbgmjaa
/- Two trees that are the same, by the program: places of lists, heads, pairs. -/
namespace Go.Proofs.Ytfgchdnpbbgmjaa
open Go.RowKit
/-- where a list lies -/
def plOf (a : Option Addr) (n : Nat) : Pl := if n = 0 then (none, 0) else (a, n)
/-- heads that are the same -/
def headSame (k : Int) (t : ByteArray) (m e : Int) (n : Nat) (k' : Int) (t' : ByteArray) (m' e' : Int) (n' : Nat) : Bool := decide (k = k') && (decide (t.toList = t'.toList) && ((decide (m = m') && decide (e = e')) && decide (n = n')))
theorem Fo.from_of_len' {F : Fo} {w : World} {a : Option Addr} (hin : F.In w a) {i : Nat} (hi : i < F.len) : ∃ b o, a = some ⟨b, o, none⟩ ∧ F.From w b o := by
  rcases hin with rfl | h
  · exact absurd hi (Nat.not_lt_zero _)
  · exact h
end Go.Proofs.Ytfgchdnpbbgmjaa
