/- My own texts, joined: FoC DecA DecB DecX FoD FoG Va Rw Vb Vd Ve Vf LexA LexB LexC Mp. -/
import Derived.Test.YtafhpplhlmlfhaaJFnValueOk0
import Derived.Test.YtafhpplhlmlfhaaRows
import Derived.WalkKit
import Derived.WalkSpells
import Derived.WalkLawsBesides
import Derived.Laws.MakeOwn
import Derived.Deep.RegionHeld3
import Derived.Test.YtafhpplhlmlfhaaProg
import Derived.Below
import Derived.WideMake
import Derived.Maps.Own
import Derived.RangeFuncRecord
/- Trees: two lists of trees that are alike; a list that is being copied, element by element, into one new block. -/
namespace Go.Proofs.Ytafhpplhlmlfhaa
open Go.RowKit
/-- the same but for where they lie -/
def Fo.alike : Fo → Fo → Prop
  | .nil, .nil => True
  | .cons k t m e _ _ kids next, .cons k' t' m' e' _ _ kids' next' => (k = k' ∧ t = t' ∧ m = m' ∧ e = e') ∧ kids.alike kids' ∧ next.alike next'
  | _, _ => False
theorem Fo.alike_nil {F : Fo} (h : F.alike .nil) : F = .nil := by cases F with
  | nil => rfl
  | cons => exact h.elim
theorem Fo.alike_cons {F : Fo} {k : Int} {t : ByteArray} {m e : Int} {a : Option Addr} {c : Nat} {kids next : Fo} (h : F.alike (.cons k t m e a c kids next)) : ∃ a' c' kids' next', F = .cons k t m e a' c' kids' next' ∧ kids'.alike kids ∧ next'.alike next := by
  cases F with
  | nil => exact h.elim
  | cons k' t' m' e' a' c' kids' next' =>
    obtain ⟨⟨rfl, rfl, rfl, rfl⟩, h1, h2⟩ := h
    exact ⟨a', c', kids', next', rfl, h1, h2⟩
theorem Fo.alike_len : ∀ {G F : Fo}, F.alike G → F.len = G.len := by
  intro G
  induction G with
  | nil => intro F h; rw [Fo.alike_nil h]
  | cons k t m e a c kids next _ ih =>
    intro F h
    obtain ⟨a', c', kids', next', rfl, _, h2⟩ := Fo.alike_cons h
    show next'.len + 1 = next.len + 1
    rw [ih h2]
theorem Fo.alike_size : ∀ {G F : Fo}, F.alike G → F.size = G.size := by
  intro G
  induction G with
  | nil => intro F h; rw [Fo.alike_nil h]
  | cons k t m e a c kids next ih1 ih2 =>
    intro F h
    obtain ⟨a', c', kids', next', rfl, h1, h2⟩ := Fo.alike_cons h
    show kids'.size + 1 + next'.size = kids.size + 1 + next.size
    rw [ih1 h1, ih2 h2]
theorem Fo.alike_deep : ∀ {G F : Fo}, F.alike G → F.deep = G.deep := by
  intro G
  induction G with
  | nil => intro F h; rw [Fo.alike_nil h]
  | cons k t m e a c kids next ih1 ih2 =>
    intro F h
    obtain ⟨a', c', kids', next', rfl, h1, h2⟩ := Fo.alike_cons h
    show max (kids'.deep + 1) next'.deep = max (kids.deep + 1) next.deep
    rw [ih1 h1, ih2 h2]
theorem Fo.alike_refl (F : Fo) : F.alike F := by
  induction F with
  | nil => trivial
  | cons k t m e a c kids next ih1 ih2 => exact ⟨⟨rfl, rfl, rfl, rfl⟩, ih1, ih2⟩
/-- the lists below lie in such blocks only -/
def Fo.Blk (P : Nat → Prop) : Fo → Prop
  | .nil => True
  | .cons _ _ _ _ a _ kids next => (kids = .nil ∨ ∃ b' o', a = some ⟨b', o', none⟩ ∧ P b') ∧ kids.Blk P ∧ next.Blk P
theorem Fo.Blk.mono {P Q : Nat → Prop} (h : ∀ b, P b → Q b) : ∀ {F : Fo}, F.Blk P → F.Blk Q := by
  intro F
  induction F with
  | nil => exact fun _ => trivial
  | cons k t m e a c kids next ih1 ih2 =>
    rintro ⟨h0, h1, h2⟩
    refine ⟨?_, ih1 h1, ih2 h2⟩
    rcases h0 with h0 | ⟨b', o', e1, e2⟩
    · exact .inl h0
    · exact .inr ⟨b', o', e1, h _ e2⟩
/-- in a world that holds the same in those blocks the list lies as it did -/
theorem Fo.from_agree {P : Nat → Prop} {w w' : World} (h : ∀ b o v, P b → w.cell? ⟨b, o, none⟩ = some v → w'.cell? ⟨b, o, none⟩ = some v) : ∀ (F : Fo) (b o : Nat), P b → F.Blk P → F.From w b o → F.From w' b o := by
  intro F
  induction F with
  | nil => intro b o _ _ _; trivial
  | cons k t m e a c kids next ih1 ih2 =>
    rintro b o hb ⟨h0, hb1, hb2⟩ ⟨⟨h1, h2, h3, h4, h5⟩, hk, hc, hm, ht, hn⟩
    refine ⟨⟨h _ _ _ hb h1, h _ _ _ hb h2, h _ _ _ hb h3, h _ _ _ hb h4, h _ _ _ hb h5⟩, ?_, hc, hm, ht, ih2 _ _ hb hb2 hn⟩
    rcases hk with hk | ⟨b', o', e1, e2⟩
    · exact .inl hk
    · rcases h0 with h0 | ⟨b'', o'', e3, e4⟩
      · exact .inl h0
      · rw [e1] at e3
        have e5 : b' = b'' := by simpa using congrArg (Option.map Addr.block) e3
        subst e5
        exact .inr ⟨b', o', e1, ih1 _ _ e4 hb1 e2⟩
/-- from cell o of block nb on lies a tree like this one -/
def Cop (P : Nat → Prop) (w : World) (nb o : Nat) (k : Int) (t : ByteArray) (m e : Int) (kids : Fo) : Prop :=
  ∃ (a' : Option Addr) (c' : Nat) (kids' : Fo), (w.cell? ⟨nb, o, none⟩ = some (.int .i64 k) ∧ w.cell? ⟨nb, o + 1, none⟩ = some (.string t) ∧ w.cell? ⟨nb, o + 2, none⟩ = some (.int .i64 m) ∧ w.cell? ⟨nb, o + 3, none⟩ = some (.int .i64 e) ∧ w.cell? ⟨nb, o + 4, none⟩ = some (.slice a' kids'.len c')) ∧
    (kids' = .nil ∨ ∃ b' o', a' = some ⟨b', o', none⟩ ∧ P b' ∧ kids'.From w b' o') ∧ kids'.Blk P ∧ kids'.alike kids ∧ kids'.len ≤ c' ∧ c' ≤ maxLen ∧ t.size ≤ maxLen
theorem Cop.agree {P : Nat → Prop} {w w' : World} {nb o : Nat} {k : Int} {t : ByteArray} {m e : Int} {kids : Fo} (h : Cop P w nb o k t m e kids) (hP : ∀ b o v, P b → w.cell? ⟨b, o, none⟩ = some v → w'.cell? ⟨b, o, none⟩ = some v)
    (hnb : ∀ q v, q < 5 → w.cell? ⟨nb, o + q, none⟩ = some v → w'.cell? ⟨nb, o + q, none⟩ = some v) : Cop P w' nb o k t m e kids := by
  obtain ⟨a', c', kids', ⟨h1, h2, h3, h4, h5⟩, hk, hr⟩ := h
  refine ⟨a', c', kids', ⟨hnb 0 _ (by omega) h1, hnb 1 _ (by omega) h2, hnb 2 _ (by omega) h3, hnb 3 _ (by omega) h4, hnb 4 _ (by omega) h5⟩, ?_, hr⟩
  rcases hk with hk | ⟨b', o', e1, e2, e3⟩
  · exact .inl hk
  · exact .inr ⟨b', o', e1, e2, Fo.from_agree hP kids' b' o' e2 hr.1 e3⟩
/-- the first j of a list are copied -/
def Pre (P : Nat → Prop) (w : World) (nb : Nat) : Fo → Nat → Nat → Prop
  | _, _, 0 => True
  | .nil, _, _ + 1 => True
  | .cons k t m e _ _ kids next, o, j + 1 => Cop P w nb o k t m e kids ∧ Pre P w nb next (o + 5) j
theorem Pre.agree {P : Nat → Prop} {w w' : World} {nb : Nat} (hP : ∀ b o v, P b → w.cell? ⟨b, o, none⟩ = some v → w'.cell? ⟨b, o, none⟩ = some v) :
    ∀ (F : Fo) (o j : Nat), (∀ o' v, o' < o + 5 * j → w.cell? ⟨nb, o', none⟩ = some v → w'.cell? ⟨nb, o', none⟩ = some v) → Pre P w nb F o j → Pre P w' nb F o j := by
  intro F
  induction F with
  | nil => intro o j _ _; cases j <;> trivial
  | cons k t m e a c kids next _ ih =>
    intro o j hnb h
    cases j with
    | zero => trivial
    | succ j =>
      obtain ⟨h1, h2⟩ := h
      exact ⟨h1.agree hP (fun q v hq => hnb _ v (by omega)), ih _ _ (fun o' v ho => hnb o' v (by omega)) h2⟩
def Fo.drop : Fo → Nat → Fo
  | F, 0 => F
  | .nil, _ + 1 => .nil
  | .cons _ _ _ _ _ _ _ next, j + 1 => next.drop j
theorem Fo.drop_next : ∀ {F : Fo} {j : Nat} {k : Int} {t : ByteArray} {m e : Int} {a : Option Addr} {c : Nat} {kids next : Fo}, F.drop j = .cons k t m e a c kids next → F.drop (j + 1) = next := by
  intro F
  induction F with
  | nil => intro j; cases j <;> intro k t m e a c kids next h <;> cases h
  | cons k0 t0 m0 e0 a0 c0 kids0 next0 _ ih =>
    intro j k t m e a c kids next h
    cases j with
    | zero => cases h; show next0.drop 0 = next0; cases next0 <;> rfl
    | succ j => exact ih h
theorem Pre.snoc {P : Nat → Prop} {w : World} {nb : Nat} : ∀ {F : Fo} {o j : Nat} {k : Int} {t : ByteArray} {m e : Int} {a : Option Addr} {c : Nat} {kids next : Fo}, F.drop j = .cons k t m e a c kids next → Pre P w nb F o j → Cop P w nb (o + 5 * j) k t m e kids → Pre P w nb F o (j + 1) := by
  intro F
  induction F with
  | nil => intro o j; cases j <;> intro k t m e a c kids next h <;> cases h
  | cons k0 t0 m0 e0 a0 c0 kids0 next0 _ ih =>
    intro o j k t m e a c kids next h hp hc
    cases j with
    | zero =>
      cases h
      refine ⟨by simpa using hc, ?_⟩
      unfold Pre; trivial
    | succ j =>
      obtain ⟨h1, h2⟩ := hp
      refine ⟨h1, ih h h2 ?_⟩
      rw [show o + 5 + 5 * j = o + 5 * (j + 1) by omega]; exact hc
/-- all are copied: there lies a list like it -/
theorem Pre.done {P : Nat → Prop} {w : World} {nb : Nat} : ∀ (F : Fo) (o j : Nat), F.len ≤ j → Pre P w nb F o j → ∃ F' : Fo, F'.alike F ∧ F'.Blk P ∧ F'.From w nb o := by
  intro F
  induction F with
  | nil => intro o j _ _; exact ⟨.nil, trivial, trivial, trivial⟩
  | cons k t m e a c kids next _ ih =>
    intro o j hj h
    have hj' : next.len + 1 ≤ j := hj
    obtain ⟨j, rfl⟩ : ∃ i, j = i + 1 := ⟨j - 1, by omega⟩
    obtain ⟨⟨a', c', kids', hcells, hk, hB, hA, hl, hm, ht⟩, h2⟩ := h
    obtain ⟨next', hA2, hB2, hF2⟩ := ih (o + 5) j (by omega) h2
    refine ⟨.cons k t m e a' c' kids' next', ⟨⟨rfl, rfl, rfl, rfl⟩, hA, hA2⟩, ⟨?_, hB, hB2⟩, hcells, ?_, hl, hm, ht, hF2⟩
    · rcases hk with hk | ⟨b', o', e1, e2, _⟩
      · exact .inl hk
      · exact .inr ⟨b', o', e1, e2⟩
    · rcases hk with hk | ⟨b', o', e1, _, e3⟩
      · exact .inl hk
      · exact .inr ⟨b', o', e1, e3⟩
end Go.Proofs.Ytafhpplhlmlfhaa
/- Contracts of the leaves of chapter 1: within, l1In, l1Big, DecOk of both sides, toDec, eqDec. -/
namespace Go.Proofs.Ytafhpplhlmlfhaa
open Go.RowKit

theorem ret_bool {a b : Bool} (h : a = b) : Ending.returned (.bool a) = .returned (.bool b) := by rw [h]

set_option maxHeartbeats 400000 in
theorem within_any (n l : Int) (w : World) (h0 : 0 ≤ l) (h1 : l ≤ 1000000000000000000) :
    Calls Try.prog 98 #[.int .i64 n, .int .i64 l] w fun e w' => e = .returned (.bool (decide (-l ≤ n) && decide (n ≤ l))) ∧ w' = w := by
  go_enter Try.func98, Try.ntmps98
  go_wp2
  all_goals
    go_ret
    exact ⟨ret_bool (by simp; try omega), rfl⟩

set_option maxHeartbeats 400000 in
theorem l1In_any (n a b : Int) (w : World) :
    Calls Try.prog 96 #[.int .i64 n, .int .i64 a, .int .i64 b] w fun e w' => e = .returned (.bool (decide (a ≤ n) && decide (n ≤ b))) ∧ w' = w := by
  go_enter Try.func96, Try.ntmps96
  go_wp2
  all_goals
    go_ret
    exact ⟨ret_bool (by simp; try omega), rfl⟩

set_option maxHeartbeats 400000 in
theorem iDecOk_any (m x : Int) (w : World) :
    Calls Try.prog 84 #[.agg #[.int .i64 m, .int .i64 x]] w fun e w' => e = .returned (.bool (Dm.ok m x)) ∧ Below w.heap.size w w' := by
  go_enter Try.func84, Try.ntmps84
  go_wp2
  all_goals
    go_ret
    exact ⟨ret_bool (by simp_all [Dm.ok]; try omega), (Below.refl _ _).alloc (Nat.le_refl _) _⟩

set_option maxHeartbeats 400000 in
theorem sDecOk_any (m x : Int) (w : World) :
    Calls Try.prog 79 #[.agg #[.int .i64 m, .int .i64 x]] w fun e w' => e = .returned (.bool (Dm.ok m x)) ∧ Below w.heap.size w w' := by
  go_enter Try.func79, Try.ntmps79
  go_wp2
  all_goals
    go_ret
    exact ⟨ret_bool (by simp_all [Dm.ok]; try omega), (Below.refl _ _).alloc (Nat.le_refl _) _⟩

end Go.Proofs.Ytafhpplhlmlfhaa
/- Small facts on worlds. -/
namespace Go.Proofs.Ytafhpplhlmlfhaa
open Go.RowKit
theorem bcell {W w1 : World} (hb : Below W.heap.size W w1) : (∀ b o, b < W.heap.size → w1.cell? ⟨b, o, none⟩ = W.cell? ⟨b, o, none⟩) ∧ (∀ b o, b < W.heap.size → w1.frozen? ⟨b, o, none⟩ = W.frozen? ⟨b, o, none⟩) :=
  ⟨fun b o h => hb.cell (p := ⟨b, o, none⟩) h, fun b o h => hb.frozen (p := ⟨b, o, none⟩) h⟩

/-- every cell that was there is as it was, and may be written as before: two rules that need no reckoning with blocks -/
theorem bsome {W w1 : World} (hb : Below W.heap.size W w1) : (∀ b o, (W.cell? ⟨b, o, none⟩).isSome = true → w1.cell? ⟨b, o, none⟩ = W.cell? ⟨b, o, none⟩) ∧ (∀ b o, (W.cell? ⟨b, o, none⟩).isSome = true → w1.frozen? ⟨b, o, none⟩ = W.frozen? ⟨b, o, none⟩) := by
  refine ⟨fun b o h => ?_, fun b o h => ?_⟩
  · obtain ⟨u, hu⟩ := Option.isSome_iff_exists.1 h
    exact hb.cell (p := ⟨b, o, none⟩) (World.block_lt_of_cell? W _ hu)
  · obtain ⟨u, hu⟩ := Option.isSome_iff_exists.1 h
    exact hb.frozen (p := ⟨b, o, none⟩) (World.block_lt_of_cell? W _ hu)
theorem below_step {X W w1 : World} (h : Below X.heap.size X W) (k : Below W.heap.size W w1) : Below X.heap.size X w1 := h.trans (k.mono h.size)
theorem two_set {W : World} {b : Nat} (h0 : (W.cell? ⟨b, 0, none⟩).isSome = true) (h1 : (W.cell? ⟨b, 1, none⟩).isSome = true) (u v : Value) :
    ((W.setCell ⟨b, 0, none⟩ u).setCell ⟨b, 1, none⟩ v).cell? ⟨b, 0, none⟩ = some u ∧ ((W.setCell ⟨b, 0, none⟩ u).setCell ⟨b, 1, none⟩ v).cell? ⟨b, 1, none⟩ = some v := by
  have e1 : (W.setCell ⟨b, 0, none⟩ u).cell? ⟨b, 1, none⟩ = W.cell? ⟨b, 1, none⟩ := World.cell?_setCell_other _ _ _ _ (by simp)
  have e0 := World.cell?_setCell_same' W ⟨b, 0, none⟩ u h0
  refine ⟨(World.cell?_setCell_other _ _ _ _ (by simp)).trans e0, World.cell?_setCell_same' _ _ _ (by rw [e1]; exact h1)⟩
theorem cell_alloc_is (w : World) (b o : Nat) (x : Obj) (h : (w.cell? ⟨b, o, none⟩).isSome = true) : (w.alloc x).cell? ⟨b, o, none⟩ = w.cell? ⟨b, o, none⟩ :=
  (bsome ((Below.refl _ w).alloc (Nat.le_refl _) x)).1 b o h
theorem frozen_alloc_is (w : World) (b o : Nat) (x : Obj) (h : (w.cell? ⟨b, o, none⟩).isSome = true) : (w.alloc x).frozen? ⟨b, o, none⟩ = w.frozen? ⟨b, o, none⟩ :=
  (bsome ((Below.refl _ w).alloc (Nat.le_refl _) x)).2 b o h

end Go.Proofs.Ytafhpplhlmlfhaa
/- Contracts of what the exact laws alone call: toDec, eqDec. -/
namespace Go.Proofs.Ytafhpplhlmlfhaa
open Go.RowKit

end Go.Proofs.Ytafhpplhlmlfhaa
/- Contracts over trees: the laws' own copy of a tree. -/
namespace Go.Proofs.Ytafhpplhlmlfhaa
open Go.RowKit
/-- the cells of so many new trees -/
def newCells (n : Nat) : Array Value := madeCells #[.int .i64 0, .string ⟨#[]⟩, .int .i64 0, .int .i64 0, .slice none 0 0] (n * 5)
/-- block nb has cells for n trees, and they may be written -/
def Room (w : World) (nb n : Nat) : Prop := ∀ o, o < n * 5 → (∃ v, w.cell? ⟨nb, o, none⟩ = some v) ∧ w.frozen? ⟨nb, o, none⟩ = false
theorem Room.grow {w w' : World} {nb n : Nat} (h : Room w nb n) (hb : Below w.heap.size w w') : Room w' nb n := by
  intro o ho
  obtain ⟨⟨v, h1⟩, h2⟩ := h o ho
  have hl := World.block_lt_of_cell? w _ h1
  exact ⟨⟨v, (hb.cell (p := ⟨nb, o, none⟩) hl).trans h1⟩, (hb.frozen (p := ⟨nb, o, none⟩) hl).trans h2⟩
/-- a tree is written -/
def put5 (w : World) (nb o : Nat) (v0 v1 v2 v3 v4 : Value) : World := ((((w.setCell ⟨nb, o, none⟩ v0).setCell ⟨nb, o + 1, none⟩ v1).setCell ⟨nb, o + 2, none⟩ v2).setCell ⟨nb, o + 3, none⟩ v3).setCell ⟨nb, o + 4, none⟩ v4
theorem put5_other {w : World} {nb o b o' : Nat} {v0 v1 v2 v3 v4 : Value} (h : ¬ b = nb ∨ o' < o ∨ o + 5 ≤ o') : (put5 w nb o v0 v1 v2 v3 v4).cell? ⟨b, o', none⟩ = w.cell? ⟨b, o', none⟩ := by
  have ne : ∀ q, q < 5 → (⟨nb, o + q, none⟩ : Addr) ≠ ⟨b, o', none⟩ := by
    intro q hq e
    simp at e
    omega
  unfold put5
  rw [World.cell?_setCell_other _ _ _ _ (ne 4 (by omega)), World.cell?_setCell_other _ _ _ _ (ne 3 (by omega)), World.cell?_setCell_other _ _ _ _ (ne 2 (by omega)), World.cell?_setCell_other _ _ _ _ (ne 1 (by omega)), World.cell?_setCell_other _ _ _ _ (by simpa using ne 0 (by omega))]
theorem set_is {w : World} {b o o' : Nat} {v : Value} (h : ∃ u, w.cell? ⟨b, o', none⟩ = some u) : ∃ u, (w.setCell ⟨b, o, none⟩ v).cell? ⟨b, o', none⟩ = some u := by
  obtain ⟨u, hu⟩ := h
  exact cell?_setCell_some hu
theorem set_far {w : World} {b o o' : Nat} {v : Value} (h : o ≠ o') : (w.setCell ⟨b, o, none⟩ v).cell? ⟨b, o', none⟩ = w.cell? ⟨b, o', none⟩ := World.cell?_setCell_other _ _ _ _ (fun e => h (by simpa using congrArg Addr.off e))
theorem set_near {w : World} {b o : Nat} {v : Value} (h : ∃ u, w.cell? ⟨b, o, none⟩ = some u) : (w.setCell ⟨b, o, none⟩ v).cell? ⟨b, o, none⟩ = some v := by
  obtain ⟨u, hu⟩ := h
  exact World.cell?_setCell_same w _ v hu
theorem put5_cells {w : World} {nb o : Nat} {v0 v1 v2 v3 v4 : Value} (h : ∀ q, q < 5 → ∃ u, w.cell? ⟨nb, o + q, none⟩ = some u) :
    (put5 w nb o v0 v1 v2 v3 v4).cell? ⟨nb, o, none⟩ = some v0 ∧ (put5 w nb o v0 v1 v2 v3 v4).cell? ⟨nb, o + 1, none⟩ = some v1 ∧ (put5 w nb o v0 v1 v2 v3 v4).cell? ⟨nb, o + 2, none⟩ = some v2 ∧ (put5 w nb o v0 v1 v2 v3 v4).cell? ⟨nb, o + 3, none⟩ = some v3 ∧ (put5 w nb o v0 v1 v2 v3 v4).cell? ⟨nb, o + 4, none⟩ = some v4 := by
  have h0 := h 0 (by omega)
  have h1 := h 1 (by omega)
  have h2 := h 2 (by omega)
  have h3 := h 3 (by omega)
  have h4 := h 4 (by omega)
  unfold put5
  refine ⟨?_, ?_, ?_, ?_, ?_⟩
  · rw [set_far (by omega), set_far (by omega), set_far (by omega), set_far (by omega)]; exact set_near h0
  · rw [set_far (by omega), set_far (by omega), set_far (by omega)]; exact set_near (set_is h1)
  · rw [set_far (by omega), set_far (by omega)]; exact set_near (set_is (set_is h2))
  · rw [set_far (by omega)]; exact set_near (set_is (set_is (set_is h3)))
  · exact set_near (set_is (set_is (set_is (set_is h4))))
theorem put5_size (w : World) (nb o : Nat) (v0 v1 v2 v3 v4 : Value) : (put5 w nb o v0 v1 v2 v3 v4).heap.size = w.heap.size := by simp [put5, World.setCell]
theorem put5_below {B : Nat} {w0 w : World} {nb : Nat} (h : Below B w0 w) (hB : B ≤ nb) (o : Nat) (v0 v1 v2 v3 v4 : Value) : Below B w0 (put5 w nb o v0 v1 v2 v3 v4) :=
  ((((h.setCell (p := ⟨nb, o, none⟩) hB v0).setCell (p := ⟨nb, o + 1, none⟩) hB v1).setCell (p := ⟨nb, o + 2, none⟩) hB v2).setCell (p := ⟨nb, o + 3, none⟩) hB v3).setCell (p := ⟨nb, o + 4, none⟩) hB v4
theorem Room.put5 {w : World} {nb n : Nat} (h : Room w nb n) (o : Nat) (v0 v1 v2 v3 v4 : Value) : Room (put5 w nb o v0 v1 v2 v3 v4) nb n := by
  intro o' ho
  obtain ⟨h1, h2⟩ := h o' ho
  refine ⟨?_, by simpa [Go.Proofs.Ytafhpplhlmlfhaa.put5] using h2⟩
  unfold Go.Proofs.Ytafhpplhlmlfhaa.put5
  exact set_is (set_is (set_is (set_is (set_is h1))))

/-- five cells of a block, that may be written -/
def Five (w : World) (b : Nat) (v0 v1 v2 v3 v4 : Value) : Prop := (w.cell? ⟨b, 0, none⟩ = some v0 ∧ w.cell? ⟨b, 1, none⟩ = some v1 ∧ w.cell? ⟨b, 2, none⟩ = some v2 ∧ w.cell? ⟨b, 3, none⟩ = some v3 ∧ w.cell? ⟨b, 4, none⟩ = some v4) ∧ (w.frozen? ⟨b, 0, none⟩ = false ∧ w.frozen? ⟨b, 1, none⟩ = false ∧ w.frozen? ⟨b, 2, none⟩ = false ∧ w.frozen? ⟨b, 3, none⟩ = false ∧ w.frozen? ⟨b, 4, none⟩ = false)
theorem Five.new (w : World) (v0 v1 v2 v3 v4 : Value) (T : TypeId) : Five (w.alloc (.cells #[v0, v1, v2, v3, v4] T)) w.heap.size v0 v1 v2 v3 v4 := by
  refine ⟨⟨?_, ?_, ?_, ?_, ?_⟩, ?_, ?_, ?_, ?_, ?_⟩ <;> simp
theorem Five.lt {w : World} {b : Nat} {v0 v1 v2 v3 v4 : Value} (h : Five w b v0 v1 v2 v3 v4) : b < w.heap.size := World.block_lt_of_cell? w _ h.1.1
theorem Five.below {B : Nat} {w w' : World} {b : Nat} {v0 v1 v2 v3 v4 : Value} (h : Five w b v0 v1 v2 v3 v4) (hb : Below B w w') (hB : b < B) : Five w' b v0 v1 v2 v3 v4 := by
  obtain ⟨⟨a0, a1, a2, a3, a4⟩, f0, f1, f2, f3, f4⟩ := h
  exact ⟨⟨(hb.cell (p := ⟨b, 0, none⟩) hB).trans a0, (hb.cell (p := ⟨b, 1, none⟩) hB).trans a1, (hb.cell (p := ⟨b, 2, none⟩) hB).trans a2, (hb.cell (p := ⟨b, 3, none⟩) hB).trans a3, (hb.cell (p := ⟨b, 4, none⟩) hB).trans a4⟩, (hb.frozen (p := ⟨b, 0, none⟩) hB).trans f0, (hb.frozen (p := ⟨b, 1, none⟩) hB).trans f1, (hb.frozen (p := ⟨b, 2, none⟩) hB).trans f2, (hb.frozen (p := ⟨b, 3, none⟩) hB).trans f3, (hb.frozen (p := ⟨b, 4, none⟩) hB).trans f4⟩

theorem Five.setOther {w : World} {b : Nat} {v0 v1 v2 v3 v4 : Value} (h : Five w b v0 v1 v2 v3 v4) {j : Nat} (hj : ¬ b = j) (o : Nat) (u : Value) : Five (w.setCell ⟨j, o, none⟩ u) b v0 v1 v2 v3 v4 := by
  obtain ⟨⟨a0, a1, a2, a3, a4⟩, f0, f1, f2, f3, f4⟩ := h
  have far : ∀ o', (w.setCell ⟨j, o, none⟩ u).cell? ⟨b, o', none⟩ = w.cell? ⟨b, o', none⟩ := fun o' => World.cell?_setCell_other _ _ _ _ (fun e => hj (by simpa using congrArg Addr.block e.symm))
  exact ⟨⟨(far 0).trans a0, (far 1).trans a1, (far 2).trans a2, (far 3).trans a3, (far 4).trans a4⟩, by simpa using f0, by simpa using f1, by simpa using f2, by simpa using f3, by simpa using f4⟩
theorem Five.setNum {w : World} {b : Nat} {v0 v1 v2 v3 v4 : Value} (h : Five w b v0 v1 v2 v3 v4) (u2 u3 : Value) : Five ((w.setCell ⟨b, 2, none⟩ u2).setCell ⟨b, 3, none⟩ u3) b v0 v1 u2 u3 v4 := by
  obtain ⟨⟨a0, a1, a2, a3, a4⟩, f0, f1, f2, f3, f4⟩ := h
  refine ⟨⟨?_, ?_, ?_, ?_, ?_⟩, by simpa using f0, by simpa using f1, by simpa using f2, by simpa using f3, by simpa using f4⟩
  · rw [set_far (by omega), set_far (by omega)]; exact a0
  · rw [set_far (by omega), set_far (by omega)]; exact a1
  · rw [set_far (by omega)]; exact set_near ⟨_, a2⟩
  · exact set_near (set_is ⟨_, a3⟩)
  · rw [set_far (by omega), set_far (by omega)]; exact a4

end Go.Proofs.Ytafhpplhlmlfhaa
/- Contracts over trees: the laws' own copy of a tree lies in cells that were never shared with a text (no part of a block is frozen). -/
namespace Go.Proofs.Ytafhpplhlmlfhaa
open Go.RowKit
attribute [local go_sem] cell_alloc_is frozen_alloc_is
/-- from a block on all blocks are cells, none of them frozen -/
def Clean (n : Nat) (w : World) : Prop := ∀ b o, n ≤ b → w.heap[b]? = some o → ∃ cs t, o = .cells cs t (0, 0)
theorem Clean.refl (w : World) : Clean w.heap.size w := fun b o h ho => absurd (Array.getElem?_eq_some_iff.1 ho).1 (by omega)
theorem Clean.alloc {n : Nat} {w : World} (h : Clean n w) (cs : Array Value) (t : TypeId) : Clean n (w.alloc (.cells cs t)) := by
  intro b o hb ho
  have e : (w.heap.push (.cells cs t))[b]? = some o := ho
  rw [Array.getElem?_push] at e
  split at e
  · cases e; exact ⟨cs, t, rfl⟩
  · exact h b o hb e
theorem Clean.setCell {n : Nat} {w : World} (h : Clean n w) (p : Addr) (v : Value) : Clean n (w.setCell p v) := by
  intro b o hb ho
  by_cases e : b = p.block
  · subst e
    unfold World.setCell at ho
    simp only [Array.getElem?_modify, if_true] at ho
    obtain ⟨o', h1, h2⟩ := Option.map_eq_some_iff.1 ho
    obtain ⟨cs, t, rfl⟩ := h _ o' hb h1
    exact ⟨_, _, h2.symm⟩
  · rw [Below.heap_setCell _ _ _ _ e] at ho
    exact h b o hb ho
theorem Clean.trans {n : Nat} {w w' : World} (h : Clean n w) (hb : Below w.heap.size w w') (h' : Clean w.heap.size w') : Clean n w' := by
  intro b o hn ho
  by_cases hlt : b < w.heap.size
  · rw [hb.block b hlt] at ho; exact h b o hn ho
  · exact h' b o (by omega) ho
theorem Clean.put5 {n : Nat} {w : World} (h : Clean n w) (nb o : Nat) (v0 v1 v2 v3 v4 : Value) : Clean n (put5 w nb o v0 v1 v2 v3 v4) := ((((h.setCell _ _).setCell _ _).setCell _ _).setCell _ _).setCell _ _
end Go.Proofs.Ytafhpplhlmlfhaa
/- Values: a list of values as it lies in memory. Its first, what stands in the first, and the rest. -/
namespace Go.Proofs.Ytafhpplhlmlfhaa
open Go.RowKit
/-- texts one behind the other -/
def SFrom (w : World) : List ByteArray → Nat → Nat → Prop
  | [], _, _ => True
  | s :: t, b, o => w.cell? ⟨b, o, none⟩ = some (.string s) ∧ s.size ≤ maxLen ∧ SFrom w t b (o + 1)
/-- the texts of a slice -/
def SIn (w : World) (ss : List ByteArray) (a : Option Addr) : Prop := ss = [] ∨ ∃ b o, a = some ⟨b, o, none⟩ ∧ SFrom w ss b o
theorem SFrom.grow {w w' : World} (h : Below w.heap.size w w') : ∀ {ss : List ByteArray} {b o : Nat}, SFrom w ss b o → SFrom w' ss b o := by
  intro ss
  induction ss with
  | nil => intro b o _; trivial
  | cons s t ih =>
    rintro b o ⟨h1, h2, h3⟩
    exact ⟨(h.cell (p := ⟨b, o, none⟩) (World.block_lt_of_cell? w _ h1)).trans h1, h2, ih h3⟩
theorem SIn.grow {w w' : World} {ss : List ByteArray} {a : Option Addr} (hs : SIn w ss a) (h : Below w.heap.size w w') : SIn w' ss a := by
  rcases hs with rfl | ⟨b, o, rfl, hs⟩
  · exact .inl rfl
  · exact .inr ⟨b, o, rfl, hs.grow h⟩
theorem SFrom.agree {P : Nat → Prop} {w w' : World} (h : ∀ b o v, P b → w.cell? ⟨b, o, none⟩ = some v → w'.cell? ⟨b, o, none⟩ = some v) : ∀ {ss : List ByteArray} {b o : Nat}, P b → SFrom w ss b o → SFrom w' ss b o := by
  intro ss
  induction ss with
  | nil => intro b o _ _; trivial
  | cons s t ih =>
    rintro b o hb ⟨h1, h2, h3⟩
    exact ⟨h _ _ _ hb h1, h2, ih hb h3⟩
theorem SFrom.at {w : World} : ∀ {ss : List ByteArray} {b o i : Nat} {s : ByteArray}, SFrom w ss b o → ss[i]? = some s → w.cell? ⟨b, o + i, none⟩ = some (.string s) ∧ s.size ≤ maxLen := by
  intro ss
  induction ss with
  | nil => intro b o i s _ h; cases h
  | cons x t ih =>
    rintro b o i s ⟨h1, h2, h3⟩ h
    cases i with
    | zero => simp at h; subst h; exact ⟨h1, h2⟩
    | succ i =>
      have := ih h3 (show t[i]? = some s by simpa using h)
      rw [show o + 1 + i = o + (i + 1) by omega] at this
      exact this
theorem SFrom.of {w : World} : ∀ {ss : List ByteArray} {b o : Nat}, (∀ i s, ss[i]? = some s → w.cell? ⟨b, o + i, none⟩ = some (.string s) ∧ s.size ≤ maxLen) → SFrom w ss b o := by
  intro ss
  induction ss with
  | nil => intro b o _; trivial
  | cons x t ih =>
    intro b o h
    have h0 := h 0 x rfl
    refine ⟨h0.1, h0.2, ih fun i s hi => ?_⟩
    have := h (i + 1) s (by simpa using hi)
    rw [show o + (i + 1) = o + 1 + i by omega] at this
    exact this
/-- how much the laws' measure counts of texts -/
def sWt : List ByteArray → Nat
  | [] => 0
  | s :: t => s.size + 1 + sWt t
theorem len_sWt (ss : List ByteArray) : ss.length ≤ sWt ss := by
  induction ss with
  | nil => exact Nat.le_refl _
  | cons s t ih => show t.length + 1 ≤ s.size + 1 + sWt t; omega
/-- a value but for what is in it: kind, number, text, names with where they lie -/
structure Hd where
  k : Int
  m : Int
  e : Int
  t : ByteArray
  na : Option Addr
  nc : Nat
  ns : List ByteArray
/-- the same but for where names lie -/
def Hd.same (h g : Hd) : Prop := (h.k = g.k ∧ h.m = g.m ∧ h.e = g.e ∧ h.t = g.t) ∧ h.ns = g.ns
theorem Hd.same_refl (h : Hd) : h.same h := ⟨⟨rfl, rfl, rfl, rfl⟩, rfl⟩
theorem Hd.same_symm {h g : Hd} (x : h.same g) : g.same h := ⟨⟨x.1.1.symm, x.1.2.1.symm, x.1.2.2.1.symm, x.1.2.2.2.symm⟩, x.2.symm⟩
theorem Hd.same_trans {h g f : Hd} (x : h.same g) (y : g.same f) : h.same f := ⟨⟨x.1.1.trans y.1.1, x.1.2.1.trans y.1.2.1, x.1.2.2.1.trans y.1.2.2.1, x.1.2.2.2.trans y.1.2.2.2⟩, x.2.trans y.2⟩
/-- its texts are no longer than texts can be, its names lie there -/
def Hd.In (w : World) (h : Hd) : Prop := SIn w h.ns h.na ∧ (h.ns.length ≤ h.nc ∧ h.nc ≤ maxLen) ∧ h.t.size ≤ maxLen
theorem Hd.In.grow {w w' : World} {h : Hd} (x : h.In w) (hb : Below w.heap.size w w') : h.In w' := ⟨x.1.grow hb, x.2⟩
/-- a list of values: the first but for what is in it, where that lies, that list, the rest -/
inductive Vo
  | nil
  | cons (h : Hd) (at_ : Option Addr) (cap : Nat) (kids : Vo) (next : Vo)
def Vo.len : Vo → Nat
  | .nil => 0
  | .cons _ _ _ _ next => next.len + 1
def Vo.size : Vo → Nat
  | .nil => 0
  | .cons _ _ _ kids next => kids.size + 1 + next.size
def Vo.deep : Vo → Nat
  | .nil => 0
  | .cons _ _ _ kids next => max (kids.deep + 1) next.deep
/-- what the laws' own measure counts -/
def Vo.wt : Vo → Nat
  | .nil => 0
  | .cons h _ _ kids next => h.t.size + kids.wt + sWt h.ns + 1 + next.wt
theorem Vo.len_wt (F : Vo) : F.len ≤ F.wt := by
  induction F with
  | nil => exact Nat.le_refl _
  | cons h a c kids next _ ih => show next.len + 1 ≤ h.t.size + kids.wt + sWt h.ns + 1 + next.wt; omega
theorem Vo.size_wt (F : Vo) : F.size ≤ F.wt := by
  induction F with
  | nil => exact Nat.le_refl _
  | cons h a c kids next ih1 ih2 => show kids.size + 1 + next.size ≤ h.t.size + kids.wt + sWt h.ns + 1 + next.wt; omega
theorem Vo.len_le (F : Vo) : F.len ≤ F.size := by
  induction F with
  | nil => exact Nat.le_refl _
  | cons h a c kids next _ ih => show next.len + 1 ≤ kids.size + 1 + next.size; omega
/-- all names in it are no more than this -/
def Vo.few (N : Nat) : Vo → Prop
  | .nil => True
  | .cons h _ _ kids next => h.ns.length ≤ N ∧ kids.few N ∧ next.few N
theorem Vo.few_wt : ∀ (F : Vo) (N : Nat), F.wt ≤ N → F.few N := by
  intro F
  induction F with
  | nil => intro N _; trivial
  | cons h a c kids next ih1 ih2 =>
    intro N hN
    have e : (Vo.cons h a c kids next).wt = h.t.size + kids.wt + sWt h.ns + 1 + next.wt := rfl
    have := len_sWt h.ns
    exact ⟨by omega, ih1 N (by omega), ih2 N (by omega)⟩
/-- the six cells of a value -/
def Cells6 (w : World) (b o : Nat) (h : Hd) (v : Value) : Prop :=
  w.cell? ⟨b, o, none⟩ = some (.int .i64 h.k) ∧ w.cell? ⟨b, o + 1, none⟩ = some (.int .i64 h.m) ∧ w.cell? ⟨b, o + 2, none⟩ = some (.int .i64 h.e) ∧ w.cell? ⟨b, o + 3, none⟩ = some (.string h.t) ∧ w.cell? ⟨b, o + 4, none⟩ = some v ∧ w.cell? ⟨b, o + 5, none⟩ = some (.slice h.na h.ns.length h.nc)
theorem Cells6.lt {w : World} {b o : Nat} {h : Hd} {v : Value} (x : Cells6 w b o h v) : b < w.heap.size := World.block_lt_of_cell? w _ x.1
theorem Cells6.mono {w w' : World} {b o : Nat} {h : Hd} {v : Value} (x : Cells6 w b o h v) (f : ∀ o' u, w.cell? ⟨b, o', none⟩ = some u → w'.cell? ⟨b, o', none⟩ = some u) : Cells6 w' b o h v :=
  ⟨f _ _ x.1, f _ _ x.2.1, f _ _ x.2.2.1, f _ _ x.2.2.2.1, f _ _ x.2.2.2.2.1, f _ _ x.2.2.2.2.2⟩
theorem Cells6.grow {w w' : World} {b o : Nat} {h : Hd} {v : Value} (x : Cells6 w b o h v) (hb : Below w.heap.size w w') : Cells6 w' b o h v :=
  x.mono fun o' _ hu => (hb.cell (p := ⟨b, o', none⟩) (World.block_lt_of_cell? w _ hu)).trans hu
/-- the list lies from cell o of block b on -/
def Vo.From (w : World) : Vo → Nat → Nat → Prop
  | .nil, _, _ => True
  | .cons h a c kids next, b, o => Cells6 w b o h (.slice a kids.len c) ∧ (kids = .nil ∨ ∃ b' o', a = some ⟨b', o', none⟩ ∧ kids.From w b' o') ∧ (kids.len ≤ c ∧ c ≤ maxLen) ∧ h.In w ∧ next.From w b (o + 6)
/-- the list of a slice -/
def Vo.In (w : World) (F : Vo) (a : Option Addr) : Prop := F = .nil ∨ ∃ b o, a = some ⟨b, o, none⟩ ∧ F.From w b o
theorem Vo.from_grow {w w' : World} (hb : Below w.heap.size w w') : ∀ (F : Vo) (b o : Nat), F.From w b o → F.From w' b o := by
  intro F
  induction F with
  | nil => intro b o _; trivial
  | cons h a c kids next ih1 ih2 =>
    rintro b o ⟨h1, hk, hc, hh, hn⟩
    refine ⟨h1.grow hb, ?_, hc, hh.grow hb, ih2 _ _ hn⟩
    rcases hk with hk | ⟨b', o', e1, e2⟩
    · exact .inl hk
    · exact .inr ⟨b', o', e1, ih1 _ _ e2⟩
theorem Vo.In.grow {w w' : World} {F : Vo} {a : Option Addr} (hF : F.In w a) (h : Below w.heap.size w w') : F.In w' a := by
  rcases hF with rfl | ⟨b, o, rfl, hF⟩
  · exact .inl rfl
  · exact .inr ⟨b, o, rfl, Vo.from_grow h F b o hF⟩
theorem Vo.from_of_len {F : Vo} {w : World} {a : Option Addr} (hin : F.In w a) {i : Nat} (hi : i < F.len) : ∃ b o, a = some ⟨b, o, none⟩ ∧ F.From w b o := by
  rcases hin with rfl | h
  · exact absurd hi (Nat.not_lt_zero _)
  · exact h
/-- a value -/
abbrev valV (h : Hd) (a : Option Addr) (n c : Nat) : Value := .agg #[.int .i64 h.k, .int .i64 h.m, .int .i64 h.e, .string h.t, .slice a n c, .slice h.na h.ns.length h.nc]
/-- the same but for where they lie -/
def Vo.alike : Vo → Vo → Prop
  | .nil, .nil => True
  | .cons h _ _ kids next, .cons h' _ _ kids' next' => h.same h' ∧ kids.alike kids' ∧ next.alike next'
  | _, _ => False
theorem Vo.alike_nil {F : Vo} (h : F.alike .nil) : F = .nil := by cases F with
  | nil => rfl
  | cons => exact h.elim
theorem Vo.alike_cons {F : Vo} {h : Hd} {a : Option Addr} {c : Nat} {kids next : Vo} (x : F.alike (.cons h a c kids next)) : ∃ h' a' c' kids' next', F = .cons h' a' c' kids' next' ∧ h'.same h ∧ kids'.alike kids ∧ next'.alike next := by
  cases F with
  | nil => exact x.elim
  | cons h' a' c' kids' next' => exact ⟨h', a', c', kids', next', rfl, x.1, x.2.1, x.2.2⟩
theorem Vo.alike_len : ∀ {G F : Vo}, F.alike G → F.len = G.len := by
  intro G
  induction G with
  | nil => intro F h; rw [Vo.alike_nil h]
  | cons h a c kids next _ ih =>
    intro F x
    obtain ⟨h', a', c', kids', next', rfl, _, _, h2⟩ := Vo.alike_cons x
    show next'.len + 1 = next.len + 1
    rw [ih h2]
theorem Vo.alike_size : ∀ {G F : Vo}, F.alike G → F.size = G.size := by
  intro G
  induction G with
  | nil => intro F h; rw [Vo.alike_nil h]
  | cons h a c kids next ih1 ih2 =>
    intro F x
    obtain ⟨h', a', c', kids', next', rfl, _, h1, h2⟩ := Vo.alike_cons x
    show kids'.size + 1 + next'.size = kids.size + 1 + next.size
    rw [ih1 h1, ih2 h2]
theorem Vo.alike_sym : ∀ {G F : Vo}, F.alike G → G.alike F := by
  intro G
  induction G with
  | nil => intro F h; rw [Vo.alike_nil h]; trivial
  | cons h a c kids next ih1 ih2 =>
    intro F x
    obtain ⟨h', a', c', kids', next', rfl, h0, h1, h2⟩ := Vo.alike_cons x
    exact ⟨Hd.same_symm h0, ih1 h1, ih2 h2⟩
theorem Vo.alike_trans : ∀ {G F E : Vo}, F.alike G → G.alike E → F.alike E := by
  intro G
  induction G with
  | nil => intro F E h1 h2; rw [Vo.alike_nil h1]; exact h2
  | cons h a c kids next ih1 ih2 =>
    intro F E x y
    obtain ⟨h', a', c', kids', next', rfl, h0, h3, h4⟩ := Vo.alike_cons x
    cases E with
    | nil => exact y.elim
    | cons h2 a2 c2 kids2 next2 => exact ⟨Hd.same_trans h0 y.1, ih1 h3 y.2.1, ih2 h4 y.2.2⟩
/-- the lists and names below lie in such blocks only -/
def Hd.Blk (P : Nat → Prop) (h : Hd) : Prop := h.ns = [] ∨ ∃ b o, h.na = some ⟨b, o, none⟩ ∧ P b
def Vo.Blk (P : Nat → Prop) : Vo → Prop
  | .nil => True
  | .cons h a _ kids next => h.Blk P ∧ (kids = .nil ∨ ∃ b' o', a = some ⟨b', o', none⟩ ∧ P b') ∧ kids.Blk P ∧ next.Blk P
theorem Hd.Blk.mono {P Q : Nat → Prop} (h : ∀ b, P b → Q b) {x : Hd} (y : x.Blk P) : x.Blk Q := by
  rcases y with y | ⟨b, o, e1, e2⟩
  · exact .inl y
  · exact .inr ⟨b, o, e1, h _ e2⟩
theorem Vo.Blk.mono {P Q : Nat → Prop} (h : ∀ b, P b → Q b) : ∀ {F : Vo}, F.Blk P → F.Blk Q := by
  intro F
  induction F with
  | nil => exact fun _ => trivial
  | cons hd a c kids next ih1 ih2 =>
    rintro ⟨hh, h0, h1, h2⟩
    refine ⟨hh.mono h, ?_, ih1 h1, ih2 h2⟩
    rcases h0 with h0 | ⟨b', o', e1, e2⟩
    · exact .inl h0
    · exact .inr ⟨b', o', e1, h _ e2⟩
theorem Hd.In.agree {P : Nat → Prop} {w w' : World} (h : ∀ b o v, P b → w.cell? ⟨b, o, none⟩ = some v → w'.cell? ⟨b, o, none⟩ = some v) {x : Hd} (y : x.Blk P) (z : x.In w) : x.In w' := by
  refine ⟨?_, z.2⟩
  rcases z.1 with z | ⟨b, o, e1, e2⟩
  · exact .inl z
  · rcases y with y | ⟨b', o', e3, e4⟩
    · exact .inl y
    · rw [e1] at e3
      cases e3
      exact .inr ⟨b, o, e1, e2.agree h e4⟩
theorem Vo.from_agree {P : Nat → Prop} {w w' : World} (h : ∀ b o v, P b → w.cell? ⟨b, o, none⟩ = some v → w'.cell? ⟨b, o, none⟩ = some v) : ∀ (F : Vo) (b o : Nat), P b → F.Blk P → F.From w b o → F.From w' b o := by
  intro F
  induction F with
  | nil => intro b o _ _ _; trivial
  | cons hd a c kids next ih1 ih2 =>
    rintro b o hb ⟨hh, h0, hb1, hb2⟩ ⟨h1, hk, hc, hi, hn⟩
    refine ⟨h1.mono fun o' u hu => h _ _ _ hb hu, ?_, hc, hi.agree h hh, ih2 _ _ hb hb2 hn⟩
    rcases hk with hk | ⟨b', o', e1, e2⟩
    · exact .inl hk
    · rcases h0 with h0 | ⟨b'', o'', e3, e4⟩
      · exact .inl h0
      · rw [e1] at e3
        cases e3
        exact .inr ⟨b', o', e1, ih1 _ _ e4 hb1 e2⟩
/-- from cell o of block nb on lies a value like this one -/
def VCop (P : Nat → Prop) (w : World) (nb o : Nat) (h : Hd) (kids : Vo) : Prop :=
  ∃ (h' : Hd) (a' : Option Addr) (c' : Nat) (kids' : Vo), Cells6 w nb o h' (.slice a' kids'.len c') ∧ (kids' = .nil ∨ ∃ b' o', a' = some ⟨b', o', none⟩ ∧ P b' ∧ kids'.From w b' o') ∧ kids'.Blk P ∧ kids'.alike kids ∧ (kids'.len ≤ c' ∧ c' ≤ maxLen) ∧ h'.In w ∧ h'.Blk P ∧ h'.same h
theorem VCop.agree {P : Nat → Prop} {w w' : World} {nb o : Nat} {h : Hd} {kids : Vo} (x : VCop P w nb o h kids) (hP : ∀ b o v, P b → w.cell? ⟨b, o, none⟩ = some v → w'.cell? ⟨b, o, none⟩ = some v)
    (hnb : ∀ q v, q < 6 → w.cell? ⟨nb, o + q, none⟩ = some v → w'.cell? ⟨nb, o + q, none⟩ = some v) : VCop P w' nb o h kids := by
  obtain ⟨h', a', c', kids', ⟨h1, h2, h3, h4, h5, h6⟩, hk, hB, hA, hc, hi, hb, hs⟩ := x
  refine ⟨h', a', c', kids', ⟨hnb 0 _ (by omega) h1, hnb 1 _ (by omega) h2, hnb 2 _ (by omega) h3, hnb 3 _ (by omega) h4, hnb 4 _ (by omega) h5, hnb 5 _ (by omega) h6⟩, ?_, hB, hA, hc, hi.agree hP hb, hb, hs⟩
  rcases hk with hk | ⟨b', o', e1, e2, e3⟩
  · exact .inl hk
  · exact .inr ⟨b', o', e1, e2, Vo.from_agree hP kids' b' o' e2 hB e3⟩
/-- the first j of a list are copied -/
def VPre (P : Nat → Prop) (w : World) (nb : Nat) : Vo → Nat → Nat → Prop
  | _, _, 0 => True
  | .nil, _, _ + 1 => True
  | .cons h _ _ kids next, o, j + 1 => VCop P w nb o h kids ∧ VPre P w nb next (o + 6) j
theorem VPre.agree {P : Nat → Prop} {w w' : World} {nb : Nat} (hP : ∀ b o v, P b → w.cell? ⟨b, o, none⟩ = some v → w'.cell? ⟨b, o, none⟩ = some v) :
    ∀ (F : Vo) (o j : Nat), (∀ o' v, o' < o + 6 * j → w.cell? ⟨nb, o', none⟩ = some v → w'.cell? ⟨nb, o', none⟩ = some v) → VPre P w nb F o j → VPre P w' nb F o j := by
  intro F
  induction F with
  | nil => intro o j _ _; cases j <;> trivial
  | cons h a c kids next _ ih =>
    intro o j hnb x
    cases j with
    | zero => trivial
    | succ j =>
      obtain ⟨h1, h2⟩ := x
      exact ⟨h1.agree hP (fun q v hq => hnb _ v (by omega)), ih _ _ (fun o' v ho => hnb o' v (by omega)) h2⟩
def Vo.drop : Vo → Nat → Vo
  | F, 0 => F
  | .nil, _ + 1 => .nil
  | .cons _ _ _ _ next, j + 1 => next.drop j
theorem Vo.drop_next : ∀ {F : Vo} {j : Nat} {h : Hd} {a : Option Addr} {c : Nat} {kids next : Vo}, F.drop j = .cons h a c kids next → F.drop (j + 1) = next := by
  intro F
  induction F with
  | nil => intro j; cases j <;> intro h a c kids next x <;> cases x
  | cons h0 a0 c0 kids0 next0 _ ih =>
    intro j h a c kids next x
    cases j with
    | zero => cases x; show next0.drop 0 = next0; cases next0 <;> rfl
    | succ j => exact ih x
theorem VPre.snoc {P : Nat → Prop} {w : World} {nb : Nat} : ∀ {F : Vo} {o j : Nat} {h : Hd} {a : Option Addr} {c : Nat} {kids next : Vo}, F.drop j = .cons h a c kids next → VPre P w nb F o j → VCop P w nb (o + 6 * j) h kids → VPre P w nb F o (j + 1) := by
  intro F
  induction F with
  | nil => intro o j; cases j <;> intro h a c kids next x <;> cases x
  | cons h0 a0 c0 kids0 next0 _ ih =>
    intro o j h a c kids next x hp hc
    cases j with
    | zero =>
      cases x
      refine ⟨by simpa using hc, ?_⟩
      unfold VPre; trivial
    | succ j =>
      obtain ⟨h1, h2⟩ := hp
      refine ⟨h1, ih x h2 ?_⟩
      rw [show o + 6 + 6 * j = o + 6 * (j + 1) by omega]; exact hc
/-- all are copied: there lies a list like it -/
theorem VPre.done {P : Nat → Prop} {w : World} {nb : Nat} : ∀ (F : Vo) (o j : Nat), F.len ≤ j → VPre P w nb F o j → ∃ F' : Vo, F'.alike F ∧ F'.Blk P ∧ F'.From w nb o := by
  intro F
  induction F with
  | nil => intro o j _ _; exact ⟨.nil, trivial, trivial, trivial⟩
  | cons h a c kids next _ ih =>
    intro o j hj x
    have hj' : next.len + 1 ≤ j := hj
    obtain ⟨j, rfl⟩ : ∃ i, j = i + 1 := ⟨j - 1, by omega⟩
    obtain ⟨⟨h', a', c', kids', hcells, hk, hB, hA, hc, hi, hb, hs⟩, h2⟩ := x
    obtain ⟨next', hA2, hB2, hF2⟩ := ih (o + 6) j (by omega) h2
    refine ⟨.cons h' a' c' kids' next', ⟨hs, hA, hA2⟩, ⟨hb, ?_, hB, hB2⟩, hcells, ?_, hc, hi, hF2⟩
    · rcases hk with hk | ⟨b', o', e1, e2, _⟩
      · exact .inl hk
      · exact .inr ⟨b', o', e1, e2⟩
    · rcases hk with hk | ⟨b', o', e1, _, e3⟩
      · exact .inl hk
      · exact .inr ⟨b', o', e1, e3⟩
/-- what stands at a place of a list -/
def Vo.hdAt : Vo → Nat → Hd
  | .nil, _ => ⟨0, 0, 0, ⟨#[]⟩, none, 0, []⟩
  | .cons h _ _ _ _, 0 => h
  | .cons _ _ _ _ next, i + 1 => next.hdAt i
def Vo.addrAt : Vo → Nat → Option Addr
  | .nil, _ => none
  | .cons _ a _ _ _, 0 => a
  | .cons _ _ _ _ next, i + 1 => next.addrAt i
def Vo.capAt : Vo → Nat → Nat
  | .nil, _ => 0
  | .cons _ _ c _ _, 0 => c
  | .cons _ _ _ _ next, i + 1 => next.capAt i
def Vo.kidsAt : Vo → Nat → Vo
  | .nil, _ => .nil
  | .cons _ _ _ kids _, 0 => kids
  | .cons _ _ _ _ next, i + 1 => next.kidsAt i
theorem Vo.from_at : ∀ {F : Vo} {w : World} {b o i : Nat}, F.From w b o → i < F.len →
    Cells6 w b (o + i * 6) (F.hdAt i) (.slice (F.addrAt i) (F.kidsAt i).len (F.capAt i)) ∧ (F.kidsAt i).In w (F.addrAt i) ∧ ((F.kidsAt i).len ≤ F.capAt i ∧ F.capAt i ≤ maxLen) ∧ (F.hdAt i).In w := by
  intro F
  induction F with
  | nil => intro w b o i _ h; exact absurd h (Nat.not_lt_zero _)
  | cons h a c kids next _ ih =>
    rintro w b o i ⟨hc, hk, h1, h2, hn⟩ hi
    cases i with
    | zero => simp only [Nat.zero_mul, Nat.add_zero]; exact ⟨hc, hk, h1, h2⟩
    | succ i =>
      have := ih hn (show i < next.len from Nat.lt_of_succ_lt_succ hi)
      rw [show o + 6 + i * 6 = o + (i + 1) * 6 by omega] at this
      exact this
theorem Vo.size_at : ∀ {F : Vo} {i : Nat}, i < F.len → (F.kidsAt i).size < F.size := by
  intro F
  induction F with
  | nil => intro i h; exact absurd h (Nat.not_lt_zero _)
  | cons h a c kids next _ ih =>
    intro i hi
    cases i with
    | zero => show kids.size < kids.size + 1 + next.size; omega
    | succ i => have := ih (show i < next.len from Nat.lt_of_succ_lt_succ hi); show (next.kidsAt i).size < kids.size + 1 + next.size; omega
theorem Vo.few_at : ∀ {F : Vo} {i N : Nat}, i < F.len → F.few N → (F.hdAt i).ns.length ≤ N ∧ (F.kidsAt i).few N := by
  intro F
  induction F with
  | nil => intro i N h; exact absurd h (Nat.not_lt_zero _)
  | cons h a c kids next _ ih =>
    rintro i N hi ⟨h1, h2, h3⟩
    cases i with
    | zero => exact ⟨h1, h2⟩
    | succ i => exact ih (show i < next.len from Nat.lt_of_succ_lt_succ hi) h3
end Go.Proofs.Ytafhpplhlmlfhaa
/- A block's cells, that may be written, as a list of values. -/
namespace Go.Proofs.Ytafhpplhlmlfhaa
open Go.RowKit
attribute [local go_sem] cell_alloc_is frozen_alloc_is
/-- block b has these cells at its beginning, and they may be written -/
def Row (w : World) (b : Nat) (vs : List Value) : Prop := ∀ i v, vs[i]? = some v → w.cell? ⟨b, i, none⟩ = some v ∧ w.frozen? ⟨b, i, none⟩ = false
theorem Row.new (w : World) (vs : List Value) (T : TypeId) : Row (w.alloc (.cells vs.toArray T)) w.heap.size vs := by
  intro i v hi
  refine ⟨?_, by simp⟩
  rw [World.cell?_alloc_new]
  simpa using hi
theorem Row.lt {w : World} {b : Nat} {v : Value} {vs : List Value} (h : Row w b (v :: vs)) : b < w.heap.size := World.block_lt_of_cell? w _ (h 0 v rfl).1
theorem Row.below {B : Nat} {w w' : World} {b : Nat} {vs : List Value} (h : Row w b vs) (hb : Below B w w') (hB : b < B) : Row w' b vs := fun i v hi =>
  ⟨(hb.cell (p := ⟨b, i, none⟩) hB).trans (h i v hi).1, (hb.frozen (p := ⟨b, i, none⟩) hB).trans (h i v hi).2⟩
theorem Row.setOther {w : World} {b : Nat} {vs : List Value} (h : Row w b vs) {j : Nat} (hj : ¬ b = j) (o : Nat) (u : Value) : Row (w.setCell ⟨j, o, none⟩ u) b vs := fun i v hi =>
  ⟨(World.cell?_setCell_other _ _ _ _ (fun e => hj (by simpa using congrArg Addr.block e.symm))).trans (h i v hi).1, by simpa using (h i v hi).2⟩
theorem Row.set {w : World} {b : Nat} {vs : List Value} (h : Row w b vs) {i : Nat} (hi : i < vs.length) (u : Value) : Row (w.setCell ⟨b, i, none⟩ u) b (vs.set i u) := by
  intro j v hj
  rw [List.getElem?_set] at hj
  by_cases e : i = j
  · subst e
    rw [if_pos rfl, if_pos hi] at hj
    cases hj
    have h0 := h i (vs[i]) (List.getElem?_eq_getElem hi)
    exact ⟨set_near ⟨_, h0.1⟩, by simpa using h0.2⟩
  · rw [if_neg e] at hj
    have h0 := h j v hj
    exact ⟨(set_far e).trans h0.1, by simpa using h0.2⟩
/-- cells o, o + 1 .. are written one behind the other -/
def putN (w : World) (b o : Nat) : List Value → World
  | [] => w
  | v :: t => putN (w.setCell ⟨b, o, none⟩ v) b (o + 1) t
theorem putN_other {b b' o' : Nat} : ∀ {vs : List Value} {w : World} {o : Nat}, (¬ b' = b ∨ o' < o ∨ o + vs.length ≤ o') → (putN w b o vs).cell? ⟨b', o', none⟩ = w.cell? ⟨b', o', none⟩ := by
  intro vs
  induction vs with
  | nil => intro w o _; rfl
  | cons v t ih =>
    intro w o h
    have hl : (v :: t).length = t.length + 1 := rfl
    show (putN (w.setCell ⟨b, o, none⟩ v) b (o + 1) t).cell? _ = _
    rw [ih (by omega)]
    exact World.cell?_setCell_other _ _ _ _ (fun e => by simp at e; omega)
theorem putN_cell {b : Nat} : ∀ {vs : List Value} {w : World} {o i : Nat} {v : Value}, (∀ q, q < vs.length → ∃ u, w.cell? ⟨b, o + q, none⟩ = some u) → vs[i]? = some v → (putN w b o vs).cell? ⟨b, o + i, none⟩ = some v := by
  intro vs
  induction vs with
  | nil => intro w o i v _ h; cases h
  | cons x t ih =>
    intro w o i v hc h
    have hl : (x :: t).length = t.length + 1 := rfl
    show (putN (w.setCell ⟨b, o, none⟩ x) b (o + 1) t).cell? _ = _
    cases i with
    | zero =>
      simp at h
      subst h
      rw [putN_other (.inr (.inl (by omega)))]
      obtain ⟨u, hu⟩ := hc 0 (by omega)
      exact set_near ⟨u, hu⟩
    | succ i =>
      rw [show o + (i + 1) = o + 1 + i by omega]
      refine ih (fun q hq => ?_) (by simpa using h)
      obtain ⟨u, hu⟩ := hc (q + 1) (by omega)
      rw [show o + 1 + q = o + (q + 1) by omega]
      exact set_is ⟨u, hu⟩
theorem putN_size {b : Nat} : ∀ {vs : List Value} {w : World} {o : Nat}, (putN w b o vs).heap.size = w.heap.size := by
  intro vs
  induction vs with
  | nil => intro w o; rfl
  | cons v t ih => intro w o; show (putN (w.setCell ⟨b, o, none⟩ v) b (o + 1) t).heap.size = _; rw [ih]; simp [World.setCell]
theorem putN_below {B b : Nat} {a : World} (hb : B ≤ b) : ∀ {vs : List Value} {w : World} {o : Nat}, Below B a w → Below B a (putN w b o vs) := by
  intro vs
  induction vs with
  | nil => intro w o h; exact h
  | cons v t ih => intro w o h; exact ih (h.setCell (p := ⟨b, o, none⟩) hb _)
theorem putN_frozen {b : Nat} (p : Addr) : ∀ {vs : List Value} {w : World} {o : Nat}, (putN w b o vs).frozen? p = w.frozen? p := by
  intro vs
  induction vs with
  | nil => intro w o; rfl
  | cons v t ih => intro w o; show (putN (w.setCell ⟨b, o, none⟩ v) b (o + 1) t).frozen? p = _; rw [ih]; simp
/-- block nb has so many cells, and they may be written -/
def RoomN (w : World) (nb n : Nat) : Prop := ∀ o, o < n → (∃ v, w.cell? ⟨nb, o, none⟩ = some v) ∧ w.frozen? ⟨nb, o, none⟩ = false
theorem RoomN.grow {w w' : World} {nb n : Nat} (h : RoomN w nb n) (hb : Below w.heap.size w w') : RoomN w' nb n := by
  intro o ho
  obtain ⟨⟨v, h1⟩, h2⟩ := h o ho
  have hl := World.block_lt_of_cell? w _ h1
  exact ⟨⟨v, (hb.cell (p := ⟨nb, o, none⟩) hl).trans h1⟩, (hb.frozen (p := ⟨nb, o, none⟩) hl).trans h2⟩
theorem RoomN.set {w : World} {nb n : Nat} (h : RoomN w nb n) (b o : Nat) (v : Value) : RoomN (w.setCell ⟨b, o, none⟩ v) nb n := by
  intro o' ho
  obtain ⟨h1, h2⟩ := h o' ho
  refine ⟨?_, by simpa using h2⟩
  obtain ⟨u, hu⟩ := h1
  exact cell?_setCell_some hu
theorem RoomN.putN {nb n : Nat} {b : Nat} : ∀ {vs : List Value} {w : World} {o : Nat}, RoomN w nb n → RoomN (putN w b o vs) nb n := by
  intro vs
  induction vs with
  | nil => intro w o h; exact h
  | cons v t ih => intro w o h; exact ih (h.set b o v)
theorem roomN_new (w : World) (cs : Array Value) (T : TypeId) : RoomN (w.alloc (.cells cs T)) w.heap.size cs.size := by
  intro o ho
  refine ⟨⟨cs[o]'ho, ?_⟩, by simp⟩
  rw [World.cell?_alloc_new]
  simp [ho]
end Go.Proofs.Ytafhpplhlmlfhaa
/- Lists of texts: the laws' measure, copy and comparison, and slices.Equal. -/
namespace Go.Proofs.Ytafhpplhlmlfhaa
open Go.RowKit
attribute [local go_sem] cell_alloc_is frozen_alloc_is
theorem drop_cons {α : Type} {ss : List α} {j : Nat} {s : α} {t : List α} (h : ss.drop j = s :: t) : ss[j]? = some s ∧ ss.drop (j + 1) = t := by
  constructor
  · have : (ss.drop j)[0]? = some s := by rw [h]; rfl
    simpa using this
  · have : (ss.drop j).drop 1 = t := by rw [h]; rfl
    rw [List.drop_drop] at this
    exact this
theorem strInfo : (Try.prog.info? 9).map (fun i => (i.zero, i.size, i.bytes)) = some (some (.string ⟨#[]⟩), 1, 16) := by kernel_rfl
theorem make_strs (n : Nat) (hn : n ≤ 2000000) (w : World) : (Instr.makeSlice 26 (.int .i64 (n : Int)) (.int .i64 (n : Int))).run Try.prog w = .ok (.slice (some ⟨w.heap.size, 0, none⟩) n n) (w.alloc (.cells (madeCells #[.string ⟨#[]⟩] n) 9)) := by
  obtain ⟨i, hi, hzz⟩ := Option.map_eq_some_iff.1 strInfo
  simp only [Prod.mk.injEq] at hzz
  obtain ⟨hz, hs, hb⟩ := hzz
  have hr := run_make (P := Try.prog) w 26 9 i _ Try.underlying26 hi hz .i64 .i64 n n (by omega) (Int.le_refl _) (by rw [hb]; omega) (by omega)
  simp only [Int.toNat_natCast, hs, Nat.mul_one] at hr
  exact hr
set_option maxRecDepth 100000 in
set_option maxHeartbeats 1000000 in
theorem es6 {Q : Exit → Act → World → Prop} {t2 t3 t4 t6 t7 t8 t9 t10 t11 t12 t13 t14 t15 t16 t17 t18 t19 t20 t21 t22 t23 t24 t25 : Value} {W : World} {b o n c b2 o2 n2 c2 j : Nat} {s s2 : ByteArray} {q : Bool}
    (hj : (j : Int) < (n : Int)) (hj2 : (j : Int) < (n2 : Int)) (h1 : W.cell? ⟨b, o + j, none⟩ = some (.string s)) (h2 : W.cell? ⟨b2, o2 + j, none⟩ = some (.string s2)) (hq : (s.toList == s2.toList) = !q)
    (hp : ∀ p d v a w, Q (.panic p) (Act.put a d v) w → Q (.panic p) a w) (h : ∀ ws v17 v18 v19 v20 v21 v22 v23 v24, Below W.heap.size W ws → Q .normal { tmps := ((.slice (some ⟨b, o, none⟩) n c) :: (.slice (some ⟨b2, o2, none⟩) n2 c2) :: t2 :: t3 :: t4 :: (.int .i64 (j : Nat)) :: t6 :: t7 :: t8 :: t9 :: t10 :: t11 :: t12 :: t13 :: t14 :: t15 :: t16 :: v17 :: v18 :: v19 :: v20 :: v21 :: v22 :: v23 :: v24 :: .bool q :: []).toArray, defers := [] } ws) :
    Code.wp Try.prog (Code.region 6 #[{ dst := some 17, op := Op.move (Operand.tmp 0), type := 26, pos := "exact.go:261", after := #[], guard := none }, { dst := some 18, op := Op.move (Operand.tmp 5), type := 3, pos := "exact.go:261", after := #[], guard := none }, { dst := some 19, op := Op.indexAddr 26 (Operand.tmp 17) (Operand.tmp 18), type := 0, pos := "exact.go:261", after := #[{ on := 0, ground := Ground.data }, { on := 1, ground := Ground.data }], guard := none }, { dst := some 20, op := Op.load 9 (Operand.tmp 19), type := 9, pos := "exact.go:261", after := #[{ on := 2, ground := Ground.data }], guard := none }, { dst := some 21, op := Op.move (Operand.tmp 1), type := 26, pos := "exact.go:261", after := #[], guard := none }, { dst := some 22, op := Op.move (Operand.tmp 5), type := 3, pos := "exact.go:261", after := #[], guard := none }, { dst := some 23, op := Op.indexAddr 26 (Operand.tmp 21) (Operand.tmp 22), type := 0, pos := "exact.go:261", after := #[{ on := 4, ground := Ground.data }, { on := 5, ground := Ground.data }], guard := none }, { dst := some 24, op := Op.load 9 (Operand.tmp 23), type := 9, pos := "exact.go:261", after := #[{ on := 6, ground := Ground.data }], guard := none }, { dst := some 25, op := Op.binOp BinOp.neq 9 (Operand.tmp 20) (Operand.tmp 24) 9, type := 4, pos := "exact.go:261", after := #[{ on := 3, ground := Ground.data }, { on := 7, ground := Ground.data }], guard := none }] true) Q { tmps := ((.slice (some ⟨b, o, none⟩) n c) :: (.slice (some ⟨b2, o2, none⟩) n2 c2) :: t2 :: t3 :: t4 :: (.int .i64 (j : Nat)) :: t6 :: t7 :: t8 :: t9 :: t10 :: t11 :: t12 :: t13 :: t14 :: t15 :: t16 :: t17 :: t18 :: t19 :: t20 :: t21 :: t22 :: t23 :: t24 :: t25 :: []).toArray, defers := [] } W := by
  have hS0 : W.drew.cell? ⟨b, o + j, none⟩ = some (.string s) ∧ W.drew.cell? ⟨b2, o2 + j, none⟩ = some (.string s2) := ⟨h1, h2⟩
  refine wp_region_held_drew (S := fun w' => w'.cell? ⟨b, o + j, none⟩ = some (.string s) ∧ w'.cell? ⟨b2, o2 + j, none⟩ = some (.string s2)) (by kernel_rfl) hS0 (fun hHeld => ?_)
  refine wpAnyH_take (i := 0) (v := .slice (some ⟨b, o, none⟩) n c) rfl (by kernel_rfl) (by kernel_rfl) (by kernel_rfl) (fun _ _ _ h => hp _ _ _ _ _ h) (Or.inl ⟨by rfl, ?_⟩) (by assumption) ?_
  · intro w hSw
    (try dsimp only at hSw)
    go_simp
  (try simp only [Act.put, List.getElem_toArray, List.getElem_cons_zero, List.setIfInBounds_toArray, List.set_cons_zero, List.set_cons_succ])
  refine wpAnyH_take (i := 1) (v := .int .i64 (j : Nat)) rfl (by kernel_rfl) (by kernel_rfl) (by kernel_rfl) (fun _ _ _ h => hp _ _ _ _ _ h) (Or.inl ⟨by rfl, ?_⟩) (by assumption) ?_
  · intro w hSw
    (try dsimp only at hSw)
    go_simp
  (try simp only [Act.put, List.getElem_toArray, List.getElem_cons_zero, List.getElem_cons_succ, List.setIfInBounds_toArray, List.set_cons_zero, List.set_cons_succ])
  refine wpAnyH_take (i := 2) (v := .pointer (some ⟨b, o + j, none⟩)) rfl (by kernel_rfl) (by kernel_rfl) (by kernel_rfl) (fun _ _ _ h => hp _ _ _ _ _ h) (Or.inl ⟨by rfl, ?_⟩) (by assumption) ?_
  · intro w hSw
    (try dsimp only at hSw)
    go_simp
  (try simp only [Act.put, List.getElem_toArray, List.getElem_cons_zero, List.getElem_cons_succ, List.setIfInBounds_toArray, List.set_cons_zero, List.set_cons_succ])
  refine wpAnyH_take (i := 3) (v := .string s) rfl (by kernel_rfl) (by kernel_rfl) (by kernel_rfl) (fun _ _ _ h => hp _ _ _ _ _ h) (Or.inl ⟨by rfl, ?_⟩) (by assumption) ?_
  · intro w hSw
    (try dsimp only at hSw)
    go_simp
  (try simp only [Act.put, List.getElem_toArray, List.getElem_cons_zero, List.getElem_cons_succ, List.setIfInBounds_toArray, List.set_cons_zero, List.set_cons_succ])
  refine wpAnyH_take (i := 4) (v := .slice (some ⟨b2, o2, none⟩) n2 c2) rfl (by kernel_rfl) (by kernel_rfl) (by kernel_rfl) (fun _ _ _ h => hp _ _ _ _ _ h) (Or.inl ⟨by rfl, ?_⟩) (by assumption) ?_
  · intro w hSw
    (try dsimp only at hSw)
    go_simp
  (try simp only [Act.put, List.getElem_toArray, List.getElem_cons_zero, List.getElem_cons_succ, List.setIfInBounds_toArray, List.set_cons_zero, List.set_cons_succ])
  refine wpAnyH_take (i := 5) (v := .int .i64 (j : Nat)) rfl (by kernel_rfl) (by kernel_rfl) (by kernel_rfl) (fun _ _ _ h => hp _ _ _ _ _ h) (Or.inl ⟨by rfl, ?_⟩) (by assumption) ?_
  · intro w hSw
    (try dsimp only at hSw)
    go_simp
  (try simp only [Act.put, List.getElem_toArray, List.getElem_cons_zero, List.getElem_cons_succ, List.setIfInBounds_toArray, List.set_cons_zero, List.set_cons_succ])
  refine wpAnyH_take (i := 6) (v := .pointer (some ⟨b2, o2 + j, none⟩)) rfl (by kernel_rfl) (by kernel_rfl) (by kernel_rfl) (fun _ _ _ h => hp _ _ _ _ _ h) (Or.inl ⟨by rfl, ?_⟩) (by assumption) ?_
  · intro w hSw
    (try dsimp only at hSw)
    go_simp
  (try simp only [Act.put, List.getElem_toArray, List.getElem_cons_zero, List.getElem_cons_succ, List.setIfInBounds_toArray, List.set_cons_zero, List.set_cons_succ])
  refine wpAnyH_take (i := 7) (v := .string s2) rfl (by kernel_rfl) (by kernel_rfl) (by kernel_rfl) (fun _ _ _ h => hp _ _ _ _ _ h) (Or.inl ⟨by rfl, ?_⟩) (by assumption) ?_
  · intro w hSw
    (try dsimp only at hSw)
    go_simp
  (try simp only [Act.put, List.getElem_toArray, List.getElem_cons_zero, List.getElem_cons_succ, List.setIfInBounds_toArray, List.set_cons_zero, List.set_cons_succ])
  refine wpAnyH_take (i := 8) (v := .bool q) rfl (by kernel_rfl) (by kernel_rfl) (by kernel_rfl) (fun _ _ _ h => hp _ _ _ _ _ h) (Or.inl ⟨by rfl, ?_⟩) (by assumption) ?_
  · intro w hSw
    (try dsimp only at hSw)
    go_simp
  (try simp only [Act.put, List.getElem_toArray, List.getElem_cons_zero, List.getElem_cons_succ, List.setIfInBounds_toArray, List.set_cons_zero, List.set_cons_succ])
  refine wpAnyH_done (by kernel_rfl) ?_ _
  exact h _ _ _ _ _ _ _ _ _ ((Below.refl W.heap.size W).drew)
set_option maxRecDepth 100000 in
set_option maxHeartbeats 1000000 in
theorem sq6 {Q : Exit → Act → World → Prop} {t2 t3 t4 t6 t7 t8 t9 t10 t11 t12 t13 t14 t15 t16 t17 t18 t19 t20 t21 t22 t23 t24 t25 : Value} {W : World} {b o n c b2 o2 n2 c2 j : Nat} {s s2 : ByteArray} {q : Bool}
    (hj : (j : Int) < (n : Int)) (hj2 : (j : Int) < (n2 : Int)) (h1 : W.cell? ⟨b, o + j, none⟩ = some (.string s)) (h2 : W.cell? ⟨b2, o2 + j, none⟩ = some (.string s2)) (hq : (s.toList == s2.toList) = !q)
    (hp : ∀ p d v a w, Q (.panic p) (Act.put a d v) w → Q (.panic p) a w) (h : ∀ ws v16 v17 v18 v19 v20 v21 v22 v23, Below W.heap.size W ws → Q .normal { tmps := ((.slice (some ⟨b, o, none⟩) n c) :: (.slice (some ⟨b2, o2, none⟩) n2 c2) :: t2 :: t3 :: t4 :: (.int .i64 (j : Nat)) :: t6 :: t7 :: t8 :: t9 :: t10 :: t11 :: t12 :: t13 :: t14 :: t15 :: v16 :: v17 :: v18 :: v19 :: v20 :: v21 :: v22 :: v23 :: .bool q :: t25 :: []).toArray, defers := [] } ws) :
    Code.wp Try.prog (Code.region 6 #[{ dst := some 16, op := Op.move (Operand.tmp 0), type := 26, pos := "slices.go:25", after := #[], guard := none }, { dst := some 17, op := Op.move (Operand.tmp 5), type := 3, pos := "slices.go:25", after := #[], guard := none }, { dst := some 18, op := Op.indexAddr 26 (Operand.tmp 16) (Operand.tmp 17), type := 0, pos := "slices.go:25", after := #[{ on := 0, ground := Ground.data }, { on := 1, ground := Ground.data }], guard := none }, { dst := some 19, op := Op.load 9 (Operand.tmp 18), type := 9, pos := "slices.go:25", after := #[{ on := 2, ground := Ground.data }], guard := none }, { dst := some 20, op := Op.move (Operand.tmp 1), type := 26, pos := "slices.go:25", after := #[], guard := none }, { dst := some 21, op := Op.move (Operand.tmp 5), type := 3, pos := "slices.go:25", after := #[], guard := none }, { dst := some 22, op := Op.indexAddr 26 (Operand.tmp 20) (Operand.tmp 21), type := 0, pos := "slices.go:25", after := #[{ on := 4, ground := Ground.data }, { on := 5, ground := Ground.data }], guard := none }, { dst := some 23, op := Op.load 9 (Operand.tmp 22), type := 9, pos := "slices.go:25", after := #[{ on := 6, ground := Ground.data }], guard := none }, { dst := some 24, op := Op.binOp BinOp.neq 9 (Operand.tmp 19) (Operand.tmp 23) 9, type := 4, pos := "slices.go:25", after := #[{ on := 3, ground := Ground.data }, { on := 7, ground := Ground.data }], guard := none }] true) Q { tmps := ((.slice (some ⟨b, o, none⟩) n c) :: (.slice (some ⟨b2, o2, none⟩) n2 c2) :: t2 :: t3 :: t4 :: (.int .i64 (j : Nat)) :: t6 :: t7 :: t8 :: t9 :: t10 :: t11 :: t12 :: t13 :: t14 :: t15 :: t16 :: t17 :: t18 :: t19 :: t20 :: t21 :: t22 :: t23 :: t24 :: t25 :: []).toArray, defers := [] } W := by
  have hS0 : W.drew.cell? ⟨b, o + j, none⟩ = some (.string s) ∧ W.drew.cell? ⟨b2, o2 + j, none⟩ = some (.string s2) := ⟨h1, h2⟩
  refine wp_region_held_drew (S := fun w' => w'.cell? ⟨b, o + j, none⟩ = some (.string s) ∧ w'.cell? ⟨b2, o2 + j, none⟩ = some (.string s2)) (by kernel_rfl) hS0 (fun hHeld => ?_)
  refine wpAnyH_take (i := 0) (v := .slice (some ⟨b, o, none⟩) n c) rfl (by kernel_rfl) (by kernel_rfl) (by kernel_rfl) (fun _ _ _ h => hp _ _ _ _ _ h) (Or.inl ⟨by rfl, ?_⟩) (by assumption) ?_
  · intro w hSw
    (try dsimp only at hSw)
    go_simp
  (try simp only [Act.put, List.getElem_toArray, List.getElem_cons_zero, List.setIfInBounds_toArray, List.set_cons_zero, List.set_cons_succ])
  refine wpAnyH_take (i := 1) (v := .int .i64 (j : Nat)) rfl (by kernel_rfl) (by kernel_rfl) (by kernel_rfl) (fun _ _ _ h => hp _ _ _ _ _ h) (Or.inl ⟨by rfl, ?_⟩) (by assumption) ?_
  · intro w hSw
    (try dsimp only at hSw)
    go_simp
  (try simp only [Act.put, List.getElem_toArray, List.getElem_cons_zero, List.getElem_cons_succ, List.setIfInBounds_toArray, List.set_cons_zero, List.set_cons_succ])
  refine wpAnyH_take (i := 2) (v := .pointer (some ⟨b, o + j, none⟩)) rfl (by kernel_rfl) (by kernel_rfl) (by kernel_rfl) (fun _ _ _ h => hp _ _ _ _ _ h) (Or.inl ⟨by rfl, ?_⟩) (by assumption) ?_
  · intro w hSw
    (try dsimp only at hSw)
    go_simp
  (try simp only [Act.put, List.getElem_toArray, List.getElem_cons_zero, List.getElem_cons_succ, List.setIfInBounds_toArray, List.set_cons_zero, List.set_cons_succ])
  refine wpAnyH_take (i := 3) (v := .string s) rfl (by kernel_rfl) (by kernel_rfl) (by kernel_rfl) (fun _ _ _ h => hp _ _ _ _ _ h) (Or.inl ⟨by rfl, ?_⟩) (by assumption) ?_
  · intro w hSw
    (try dsimp only at hSw)
    go_simp
  (try simp only [Act.put, List.getElem_toArray, List.getElem_cons_zero, List.getElem_cons_succ, List.setIfInBounds_toArray, List.set_cons_zero, List.set_cons_succ])
  refine wpAnyH_take (i := 4) (v := .slice (some ⟨b2, o2, none⟩) n2 c2) rfl (by kernel_rfl) (by kernel_rfl) (by kernel_rfl) (fun _ _ _ h => hp _ _ _ _ _ h) (Or.inl ⟨by rfl, ?_⟩) (by assumption) ?_
  · intro w hSw
    (try dsimp only at hSw)
    go_simp
  (try simp only [Act.put, List.getElem_toArray, List.getElem_cons_zero, List.getElem_cons_succ, List.setIfInBounds_toArray, List.set_cons_zero, List.set_cons_succ])
  refine wpAnyH_take (i := 5) (v := .int .i64 (j : Nat)) rfl (by kernel_rfl) (by kernel_rfl) (by kernel_rfl) (fun _ _ _ h => hp _ _ _ _ _ h) (Or.inl ⟨by rfl, ?_⟩) (by assumption) ?_
  · intro w hSw
    (try dsimp only at hSw)
    go_simp
  (try simp only [Act.put, List.getElem_toArray, List.getElem_cons_zero, List.getElem_cons_succ, List.setIfInBounds_toArray, List.set_cons_zero, List.set_cons_succ])
  refine wpAnyH_take (i := 6) (v := .pointer (some ⟨b2, o2 + j, none⟩)) rfl (by kernel_rfl) (by kernel_rfl) (by kernel_rfl) (fun _ _ _ h => hp _ _ _ _ _ h) (Or.inl ⟨by rfl, ?_⟩) (by assumption) ?_
  · intro w hSw
    (try dsimp only at hSw)
    go_simp
  (try simp only [Act.put, List.getElem_toArray, List.getElem_cons_zero, List.getElem_cons_succ, List.setIfInBounds_toArray, List.set_cons_zero, List.set_cons_succ])
  refine wpAnyH_take (i := 7) (v := .string s2) rfl (by kernel_rfl) (by kernel_rfl) (by kernel_rfl) (fun _ _ _ h => hp _ _ _ _ _ h) (Or.inl ⟨by rfl, ?_⟩) (by assumption) ?_
  · intro w hSw
    (try dsimp only at hSw)
    go_simp
  (try simp only [Act.put, List.getElem_toArray, List.getElem_cons_zero, List.getElem_cons_succ, List.setIfInBounds_toArray, List.set_cons_zero, List.set_cons_succ])
  refine wpAnyH_take (i := 8) (v := .bool q) rfl (by kernel_rfl) (by kernel_rfl) (by kernel_rfl) (fun _ _ _ h => hp _ _ _ _ _ h) (Or.inl ⟨by rfl, ?_⟩) (by assumption) ?_
  · intro w hSw
    (try dsimp only at hSw)
    go_simp
  (try simp only [Act.put, List.getElem_toArray, List.getElem_cons_zero, List.getElem_cons_succ, List.setIfInBounds_toArray, List.set_cons_zero, List.set_cons_succ])
  refine wpAnyH_done (by kernel_rfl) ?_ _
  exact h _ _ _ _ _ _ _ _ _ ((Below.refl W.heap.size W).drew)
theorem text_ext {a b : ByteArray} (h : a.toList = b.toList) : a = b := by
  rw [ByteArray.toList_eq, ByteArray.toList_eq] at h
  cases a; cases b; simpa using h
theorem text_ne {a b : ByteArray} (h : a ≠ b) : (a.toList != b.toList) = true := by
  rw [bne_iff_ne]; exact fun e => h (text_ext e)
theorem text_eq (a : ByteArray) : (a.toList != a.toList) = false := by simp
set_option maxRecDepth 100000 in
set_option maxHeartbeats 1000000 in
theorem equalS_any (ss tt : List ByteArray) (a a2 : Option Addr) (c c2 : Nat) (w : World) (hin : SIn w ss a) (hin2 : SIn w tt a2) (hl : ss.length ≤ c) (hc : c ≤ maxLen) (hl2 : tt.length ≤ c2) :
    Calls Try.prog 78 #[.slice a ss.length c, .slice a2 tt.length c2] w fun r w' => r = .returned (.bool (decide (ss = tt))) ∧ Below w.heap.size w w' := by
  unfold maxLen at hc
  by_cases hlen : ss.length = tt.length
  · obtain ⟨N, hN⟩ : ∃ N, ss.length = N := ⟨_, rfl⟩
    have HN : Hid (ss.length = N) := hN
    have HN2 : Hid (tt.length = N) := hlen.symm.trans hN
    rw [← hlen, hN] at hl2 ⊢
    rw [hN] at hl
    clear hlen hN
    go_enter Try.func78, Try.ntmps78
    go_wp2_with fail
    go_loopw [13] (fun i wr => ∃ (j : Nat), i = .int .i64 j ∧ j ≤ N ∧ (∀ q, q < j → ss[q]? = tt[q]?) ∧ Below w.heap.size w wr) (fun i _ => N - (intOf i).toNat)
    case atStart => exact ⟨0, rfl, Nat.zero_le _, fun q hq => absurd hq (Nat.not_lt_zero _), Below.refl _ _⟩
    case round =>
      obtain ⟨j, rfl, hj, hP, hb⟩ := hrel
      have HP : Hid (∀ q, q < j → ss[q]? = tt[q]?) := hP
      clear hP
      by_cases hjn : j < N
      · have hlt : (j : Int) < (N : Int) := by omega
        obtain ⟨s, hs⟩ : ∃ s, ss[j]? = some s := ⟨ss[j]'(by rw [HN.out]; exact hjn), List.getElem?_eq_getElem _⟩
        obtain ⟨s2, hs2⟩ : ∃ s, tt[j]? = some s := ⟨tt[j]'(by rw [HN2.out]; exact hjn), List.getElem?_eq_getElem _⟩
        rcases hin with hin | ⟨b, o, rfl, hF⟩
        · rw [hin] at hs; simp at hs
        rcases hin2 with hin2 | ⟨b2, o2, rfl, hF2⟩
        · rw [hin2] at hs2; simp at hs2
        have h1 := ((hF.grow hb).at hs).1
        have h2 := ((hF2.grow hb).at hs2).1
        have HS : Hid (ss[j]? = some s ∧ tt[j]? = some s2) := ⟨hs, hs2⟩
        clear hs hs2 hF hF2
        by_cases he : s = s2
        · subst he
          go_wp2_with fail
          refine sq6 hlt hlt h1 h2 (q := false) (by simp) (fun _ d _ _ _ h => by cases d <;> exact h) ?_
          intro ws v16 v17 v18 v19 v20 v21 v22 v23 hb1
          have hb2 := hb.trans (hb1.mono hb.size)
          clear h1 h2 hb1 hb
          go_wp2_with fail
          go_round
          case rel =>
            refine ⟨j + 1, by go_num, by omega, fun q hq => ?_, hb2⟩
            by_cases e : q = j
            · rw [e, HS.out.1, HS.out.2]
            · exact HP.out q (by omega)
          case measure => simp [intOf]; omega
        · have hne := text_ne he
          have HR : Hid (decide (ss = tt) = false) := decide_eq_false fun e => he (by have := HS.out; rw [e] at this; exact Option.some.inj (this.1.symm.trans this.2))
          go_wp2_with fail
          refine sq6 hlt hlt h1 h2 (q := true) (by simpa using hne) (fun _ d _ _ _ h => by cases d <;> exact h) ?_
          intro ws v16 v17 v18 v19 v20 v21 v22 v23 hb1
          have hb2 := hb.trans (hb1.mono hb.size)
          clear h1 h2 hb1 hb hne
          go_wp2_with fail
          go_ret
          exact ⟨by rw [HR.out]; rfl, hb2⟩
      · have e : j = N := by omega
        subst e
        have HR : Hid (decide (ss = tt) = true) := decide_eq_true (List.ext_getElem? fun i => by
          by_cases hi : i < j
          · exact HP.out i hi
          · rw [List.getElem?_eq_none (by rw [HN.out]; omega), List.getElem?_eq_none (by rw [HN2.out]; omega)])
        clear hin hin2
        go_wp2_with fail
        go_ret
        exact ⟨by rw [HR.out]; rfl, hb⟩
  · have hne : ((ss.length : Int) != (tt.length : Int)) = true := by simp; omega
    have HR : Hid (decide (ss = tt) = false) := decide_eq_false fun e => hlen (by rw [e])
    rw [HR.out]
    obtain ⟨n1, h1⟩ : ∃ n1, ss.length = n1 := ⟨_, rfl⟩
    obtain ⟨n2, h2⟩ : ∃ n2, tt.length = n2 := ⟨_, rfl⟩
    rw [h1, h2] at hne hlen ⊢
    have hlen' : ¬ (n1 : Int) = (n2 : Int) := by omega
    clear hin hin2 h1 h2 HR
    go_enter Try.func78, Try.ntmps78
    go_wp2_with fail
    go_ret
    exact ⟨rfl, Below.refl _ _⟩
end Go.Proofs.Ytafhpplhlmlfhaa
/- Contracts over values: the laws' own copy of a value, in cells that were never shared with a text. -/
namespace Go.Proofs.Ytafhpplhlmlfhaa
open Go.RowKit
attribute [local go_sem] cell_alloc_is frozen_alloc_is
theorem valInfo : (Try.prog.info? 28).map (fun i => (i.zero, i.size, i.bytes)) = some (some (.agg #[.int .i64 0, .int .i64 0, .int .i64 0, .string ⟨#[]⟩, .slice none 0 0, .slice none 0 0]), 6, 88) := by kernel_rfl
/-- the cells of so many new values -/
def newVals (n : Nat) : Array Value := madeCells #[.int .i64 0, .int .i64 0, .int .i64 0, .string ⟨#[]⟩, .slice none 0 0, .slice none 0 0] (n * 6)
theorem make_vals (n : Nat) (hn : n ≤ 1100000) (w : World) : (Instr.makeSlice 25 (.int .i64 (n : Int)) (.int .i64 (n : Int))).run Try.prog w = .ok (.slice (some ⟨w.heap.size, 0, none⟩) n n) (w.alloc (.cells (newVals n) 28)) := by
  obtain ⟨i, hi, hzz⟩ := Option.map_eq_some_iff.1 valInfo
  simp only [Prod.mk.injEq] at hzz
  obtain ⟨hz, hs, hb⟩ := hzz
  have hr := run_make (P := Try.prog) w 25 28 i _ Try.underlying25 hi hz .i64 .i64 n n (by omega) (Int.le_refl _) (by rw [hb]; omega) (by omega)
  simp only [Int.toNat_natCast, hs] at hr
  exact hr
theorem roomV_new (w : World) (n : Nat) : RoomN (w.alloc (.cells (newVals n) 28)) w.heap.size (n * 6) := by
  have h := roomN_new w (newVals n) 28
  rw [show (newVals n).size = n * 6 from size_madeCells _ _] at h
  exact h
/-- a value is written -/
def put6 (w : World) (nb o : Nat) (v0 v1 v2 v3 v4 v5 : Value) : World := (((((w.setCell ⟨nb, o, none⟩ v0).setCell ⟨nb, o + 1, none⟩ v1).setCell ⟨nb, o + 2, none⟩ v2).setCell ⟨nb, o + 3, none⟩ v3).setCell ⟨nb, o + 4, none⟩ v4).setCell ⟨nb, o + 5, none⟩ v5
theorem put6_eq (w : World) (nb o : Nat) (v0 v1 v2 v3 v4 v5 : Value) : put6 w nb o v0 v1 v2 v3 v4 v5 = putN w nb o [v0, v1, v2, v3, v4, v5] := rfl
theorem put6_other {w : World} {nb o b o' : Nat} {v0 v1 v2 v3 v4 v5 : Value} (h : ¬ b = nb ∨ o' < o ∨ o + 6 ≤ o') : (put6 w nb o v0 v1 v2 v3 v4 v5).cell? ⟨b, o', none⟩ = w.cell? ⟨b, o', none⟩ := by
  rw [put6_eq]; exact putN_other h
theorem put6_cell {w : World} {nb o : Nat} {v0 v1 v2 v3 v4 v5 : Value} (h : ∀ q, q < 6 → ∃ u, w.cell? ⟨nb, o + q, none⟩ = some u) {i : Nat} {v : Value} (hi : ([v0, v1, v2, v3, v4, v5] : List Value)[i]? = some v) : (put6 w nb o v0 v1 v2 v3 v4 v5).cell? ⟨nb, o + i, none⟩ = some v := by
  rw [put6_eq]; exact putN_cell h hi
theorem put6_size {w : World} {nb o : Nat} {v0 v1 v2 v3 v4 v5 : Value} : (put6 w nb o v0 v1 v2 v3 v4 v5).heap.size = w.heap.size := by rw [put6_eq]; exact putN_size
theorem put6_below {B nb o : Nat} {a w : World} (h : Below B a w) (hb : B ≤ nb) (v0 v1 v2 v3 v4 v5 : Value) : Below B a (put6 w nb o v0 v1 v2 v3 v4 v5) := by rw [put6_eq]; exact putN_below hb h
theorem Clean.put6 {n : Nat} {w : World} (h : Clean n w) (nb o : Nat) (v0 v1 v2 v3 v4 v5 : Value) : Clean n (put6 w nb o v0 v1 v2 v3 v4 v5) := (((((h.setCell _ _).setCell _ _).setCell _ _).setCell _ _).setCell _ _).setCell _ _
theorem RoomN.put6 {w : World} {nb n : Nat} (h : RoomN w nb n) (b o : Nat) (v0 v1 v2 v3 v4 v5 : Value) : RoomN (put6 w b o v0 v1 v2 v3 v4 v5) nb n := by rw [put6_eq]; exact h.putN
/-- a value's names in another place -/
def Hd.to (h : Hd) (b : Nat) : Hd := ⟨h.k, h.m, h.e, h.t, some ⟨b, 0, none⟩, h.ns.length, h.ns⟩
theorem Hd.to_same (h : Hd) (b : Nat) : (h.to b).same h := ⟨⟨rfl, rfl, rfl, rfl⟩, rfl⟩
/-- a copy of a value, in new memory -/
def CopV (w w' : World) (h : Hd) (F : Vo) (r : Ending) : Prop :=
  ∃ (nb n2 : Nat) (F' : Vo), r = .returned (valV (h.to n2) (some ⟨nb, 0, none⟩) F'.len F'.len) ∧ (w.heap.size ≤ nb ∧ w.heap.size ≤ n2) ∧ F'.alike F ∧ F'.Blk (fun b => w.heap.size ≤ b) ∧ F'.From w' nb 0 ∧ SFrom w' h.ns n2 0 ∧ Clean w.heap.size w'
end Go.Proofs.Ytafhpplhlmlfhaa
/- Contracts over values: the laws' own copy of a value. -/
namespace Go.Proofs.Ytafhpplhlmlfhaa
open Go.RowKit
end Go.Proofs.Ytafhpplhlmlfhaa
/- Contracts over values: the laws' own comparison, of two values that are alike. -/
namespace Go.Proofs.Ytafhpplhlmlfhaa
open Go.RowKit
attribute [local go_sem] cell_alloc_is frozen_alloc_is
/-- the six cells of a value, open -/
abbrev C6 (w : World) (b o : Nat) (h : Hd) (v : Value) : Prop :=
  w.cell? ⟨b, o, none⟩ = some (.int .i64 h.k) ∧ w.cell? ⟨b, o + 1, none⟩ = some (.int .i64 h.m) ∧ w.cell? ⟨b, o + 2, none⟩ = some (.int .i64 h.e) ∧ w.cell? ⟨b, o + 3, none⟩ = some (.string h.t) ∧ w.cell? ⟨b, o + 4, none⟩ = some v ∧ w.cell? ⟨b, o + 5, none⟩ = some (.slice h.na h.ns.length h.nc)
end Go.Proofs.Ytafhpplhlmlfhaa
/- Contracts of the leaves of chapter 2: letters, figures, runs, words, NameOk of both sides. -/
namespace Go.Proofs.Ytafhpplhlmlfhaa
open Go.RowKit

theorem lret_bool {a b : Bool} (h : a = b) : Ending.returned (.bool a) = .returned (.bool b) := by rw [h]
theorem lret_int {k : IntKind} {a b : Int} (h : a = b) : Ending.returned (.int k a) = .returned (.int k b) := by rw [h]

set_option maxHeartbeats 400000 in
theorem isLetter_any (c : Int) (w : World) :
    Calls Try.prog 151 #[.int .u8 c] w fun e w' => e = .returned (.bool (Qm.low c)) ∧ w' = w := by
  go_enter Try.func151, Try.ntmps151
  go_wp2
  all_goals
    go_ret
    exact ⟨lret_bool (by rw [Bool.eq_iff_iff]; simp [Qm.low]; try omega), rfl⟩
set_option maxHeartbeats 400000 in
theorem l2Low_any (c : Int) (w : World) :
    Calls Try.prog 116 #[.int .u8 c] w fun e w' => e = .returned (.bool (Qm.low c)) ∧ w' = w := by
  go_enter Try.func116, Try.ntmps116
  go_wp2
  all_goals
    go_ret
    exact ⟨lret_bool (by rw [Bool.eq_iff_iff]; simp [Qm.low]; try omega), rfl⟩
set_option maxHeartbeats 400000 in
theorem isFigure_any (c : Int) (w : World) :
    Calls Try.prog 155 #[.int .u8 c] w fun e w' => e = .returned (.bool (Qm.fig c)) ∧ w' = w := by
  go_enter Try.func155, Try.ntmps155
  go_wp2
  all_goals
    go_ret
    exact ⟨lret_bool (by rw [Bool.eq_iff_iff]; simp [Qm.fig]; try omega), rfl⟩
set_option maxHeartbeats 400000 in
theorem l2Figure_any (c : Int) (w : World) :
    Calls Try.prog 117 #[.int .u8 c] w fun e w' => e = .returned (.bool (Qm.fig c)) ∧ w' = w := by
  go_enter Try.func117, Try.ntmps117
  go_wp2
  all_goals
    go_ret
    exact ⟨lret_bool (by rw [Bool.eq_iff_iff]; simp [Qm.fig]; try omega), rfl⟩
set_option maxHeartbeats 400000 in
theorem isNamePart_any (c : Int) (w : World) :
    Calls Try.prog 153 #[.int .u8 c] w fun e w' => e = .returned (.bool (Qm.part c)) ∧ w' = w := by
  go_enter Try.func153, Try.ntmps153
  go_wp2_with (first | (go_at_call 151; refine (isLetter_any _ _).mono ?_; rintro e w' ⟨rfl, rfl⟩) | (go_at_call 155; refine (isFigure_any _ _).mono ?_; rintro e w' ⟨rfl, rfl⟩))
  all_goals
    go_ret
    exact ⟨lret_bool (by simp_all [Qm.part]), rfl⟩
set_option maxHeartbeats 400000 in
theorem l1In_l (n a b : Int) (w : World) :
    Calls Try.prog 96 #[.int .i64 n, .int .i64 a, .int .i64 b] w fun e w' => e = .returned (.bool (decide (a ≤ n) && decide (n ≤ b))) ∧ w' = w := by
  go_enter Try.func96, Try.ntmps96
  go_wp2
  all_goals
    go_ret
    exact ⟨lret_bool (by simp; try omega), rfl⟩

/-- how many bytes a text begins with that are name's parts -/
theorem runLength_part (s : ByteArray) (w : World) (hs : s.size ≤ maxLen) :
    Calls Try.prog 152 #[.string s, .func (.func 153) #[] #[]] w fun e w' => e = .returned (.int .i64 (Qm.run Qm.part s.data.toList)) ∧ w' = w := by
  unfold maxLen at hs
  go_enter Try.func152, Try.ntmps152
  go_wp2_with fail
  go_loop [5] (fun i => ∃ k : Nat, k ≤ s.size ∧ i = .int .i64 k ∧ Qm.run Qm.part s.data.toList = k + Qm.run Qm.part (s.data.toList.drop k)) (fun i => s.size - (intOf i).toNat)
  case atStart => exact ⟨0, Nat.zero_le _, rfl, by simp⟩
  case round =>
    obtain ⟨k, hk, rfl, hr⟩ := hrel
    have HR : Hid (Qm.run Qm.part s.data.toList = k + Qm.run Qm.part (s.data.toList.drop k)) := hr
    clear hr
    by_cases hlt : k < s.size
    · have HS : Hid (Qm.run Qm.part (s.data.toList.drop k) = if Qm.part s[k].toNat then 1 + Qm.run Qm.part (s.data.toList.drop (k + 1)) else 0) := Qm.run_step _ s k hlt
      cases hp : Qm.part s[k].toNat
      · go_wp2_with (go_at_call 153; refine (isNamePart_any _ _).mono ?_; rintro e w' ⟨rfl, rfl⟩)
        go_ret
        exact ⟨lret_int (by rw [HR.out, HS.out, hp]; simp), rfl⟩
      · go_wp2_with (go_at_call 153; refine (isNamePart_any _ _).mono ?_; rintro e w' ⟨rfl, rfl⟩)
        go_round
        case rel => exact ⟨k + 1, by omega, by go_num, by rw [HR.out, HS.out, hp]; simp; omega⟩
        case measure => simp [intOf]; omega
    · have HE := Qm.run_end Qm.part s k hlt
      have HE' : Hid (Qm.run Qm.part (s.data.toList.drop k) = 0) := HE
      clear HE
      go_wp2_with fail
      go_ret
      exact ⟨lret_int (by rw [HR.out, HE'.out]; simp), rfl⟩
end Go.Proofs.Ytafhpplhlmlfhaa
/- Contracts: words, l2Has, l2Letters, NameOk of both sides. -/
namespace Go.Proofs.Ytafhpplhlmlfhaa
open Go.RowKit

set_option maxHeartbeats 1000000 in
theorem isWord_any (s : ByteArray) (w : World) :
    Calls Try.prog 154 #[.string s] w fun e w' => e = .returned (.bool (Qm.has Qm.words s.toList)) ∧ w' = w := by
  generalize hl : s.toList = l
  cases h : Qm.has Qm.words l
  · simp only [Qm.words, Qm.has, Bool.or_eq_false_iff] at h
    obtain ⟨a1, a2, a3, a4, a5, a6, a7, a8, a9, a10, a11, a12, a13, a14, a15, _⟩ := h
    go_enter Try.func154, Try.ntmps154
    go_wp2_with fail
    go_ret
    exact ⟨rfl, rfl⟩
  · have hm : l ∈ Qm.words := by
      simp only [Qm.words, Qm.has, Bool.or_eq_true, beq_iff_eq] at h
      simp only [Qm.words, List.mem_cons, List.not_mem_nil, or_false]
      rcases h with h | h | h | h | h | h | h | h | h | h | h | h | h | h | h | h
      all_goals first | exact absurd h (by simp) | (subst h; simp)
    clear h
    simp only [Qm.words, List.mem_cons, List.not_mem_nil, or_false] at hm
    rcases hm with h | h | h | h | h | h | h | h | h | h | h | h | h | h | h
    all_goals
      subst h
      go_enter Try.func154, Try.ntmps154
      go_wp2_with fail
      go_ret
      exact ⟨rfl, rfl⟩
end Go.Proofs.Ytafhpplhlmlfhaa
/- Contracts: l2Words, l2Has. -/
namespace Go.Proofs.Ytafhpplhlmlfhaa
open Go.RowKit

/-- the words' texts, as they lie in memory -/
def wordTexts : Array Value := #[.string ⟨#[110, 117, 108, 108]⟩, .string ⟨#[116, 114, 117, 101]⟩, .string ⟨#[102, 97, 108, 115, 101]⟩, .string ⟨#[105, 102]⟩, .string ⟨#[116, 104, 101, 110]⟩, .string ⟨#[101, 108, 115, 101]⟩, .string ⟨#[108, 111, 99, 97, 108]⟩, .string ⟨#[102, 117, 110, 99, 116, 105, 111, 110]⟩, .string ⟨#[115, 101, 108, 102]⟩, .string ⟨#[115, 117, 112, 101, 114]⟩, .string ⟨#[101, 114, 114, 111, 114]⟩, .string ⟨#[105, 109, 112, 111, 114, 116]⟩, .string ⟨#[102, 111, 114]⟩, .string ⟨#[105, 110]⟩, .string ⟨#[115, 116, 100]⟩]
set_option maxHeartbeats 400000 in
theorem l2Words_any (w : World) :
    Calls Try.prog 113 #[] w fun e w' => e = .returned (.slice (some ⟨w.heap.size, 0, none⟩) 15 15) ∧ w' = w.alloc (.cells wordTexts 9) := by
  go_enter Try.func113, Try.ntmps113
  go_wp2_with fail
  go_ret
  exact ⟨rfl, rfl⟩

set_option maxHeartbeats 400000 in
theorem l2Has_any (b n : Nat) (S : List ByteArray) (s : ByteArray) (w : World) (hn : S.length = n) (hb : n ≤ 1000)
    (hc : ∀ k (h : k < S.length), w.cell? ⟨b, k, none⟩ = some (.string S[k])) :
    Calls Try.prog 89 #[.slice (some ⟨b, 0, none⟩) n n, .string s] w fun e w' => e = .returned (.bool (Qm.has (S.map ByteArray.toList) s.toList)) ∧ w' = w := by
  subst hn
  go_enter Try.func89, Try.ntmps89
  go_wp2_with fail
  go_loop [5] (fun i => ∃ k : Nat, k ≤ S.length ∧ i = .int .i64 k ∧ Qm.has (S.map ByteArray.toList) s.toList = Qm.has ((S.map ByteArray.toList).drop k) s.toList) (fun i => S.length - (intOf i).toNat)
  case atStart => exact ⟨0, Nat.zero_le _, rfl, by simp⟩
  case round =>
    obtain ⟨k, hk, rfl, hr⟩ := hrel
    have HR : Hid (Qm.has (S.map ByteArray.toList) s.toList = Qm.has ((S.map ByteArray.toList).drop k) s.toList) := hr
    clear hr
    by_cases hlt : k < S.length
    · have HS : Hid (Qm.has ((S.map ByteArray.toList).drop k) s.toList = ((s.toList == (S.map ByteArray.toList)[k]'(by simpa using hlt)) || Qm.has ((S.map ByteArray.toList).drop (k + 1)) s.toList)) := Qm.has_drop _ _ k (by simpa using hlt)
      have hck := hc k hlt
      clear hc
      cases hq : (S[k].toList == s.toList)
      · go_wp2_with fail
        go_round
        case rel => exact ⟨k + 1, by omega, by go_num, by rw [HR.out, HS.out, List.getElem_map, BEq.comm, hq]; simp⟩
        case measure => simp [intOf]; omega
      · go_wp2_with fail
        go_ret
        exact ⟨lret_bool (by rw [HR.out, HS.out, List.getElem_map, BEq.comm, hq]; simp), rfl⟩
    · have HE : Hid (Qm.has ((S.map ByteArray.toList).drop k) s.toList = false) := Qm.has_end _ _ k (by simpa using hlt)
      go_wp2_with fail
      go_ret
      exact ⟨lret_bool (by rw [HR.out, HE.out]), rfl⟩

set_option maxHeartbeats 400000 in
theorem l2Letters_any (s : ByteArray) (w : World) (hs : s.size ≤ maxLen) :
    Calls Try.prog 112 #[.string s] w fun e w' => e = .returned (.bool (Qm.letters 0 s.data.toList && (decide (1 ≤ s.size) && decide (s.size ≤ 12)))) ∧ w' = w := by
  unfold maxLen at hs
  go_enter Try.func112, Try.ntmps112
  go_wp2_with fail
  go_loop [3] (fun i => ∃ k : Nat, k ≤ s.size ∧ i = .int .i64 k ∧ Qm.letters 0 s.data.toList = Qm.letters k (s.data.toList.drop k)) (fun i => s.size - (intOf i).toNat)
  case atStart => exact ⟨0, Nat.zero_le _, rfl, by simp⟩
  case round =>
    obtain ⟨k, hk, rfl, hr⟩ := hrel
    have HR : Hid (Qm.letters 0 s.data.toList = Qm.letters k (s.data.toList.drop k)) := hr
    clear hr
    by_cases hlt : k < s.size
    · have HS : Hid (Qm.letters k (s.data.toList.drop k) = (Qm.okAt k s[k].toNat && Qm.letters (k + 1) (s.data.toList.drop (k + 1)))) := Qm.letters_step s k hlt
      cases h1 : Qm.low s[k].toNat
      · by_cases h0 : k = 0
        · subst h0
          go_wp2_with (first | (go_at_call 116; refine (l2Low_any _ _).mono ?_; rintro e w' ⟨rfl, rfl⟩) | (go_at_call 117; refine (l2Figure_any _ _).mono ?_; rintro e w' ⟨rfl, rfl⟩))
          go_ret
          exact ⟨lret_bool (by rw [HR.out, HS.out]; simp [Qm.okAt, h1]), rfl⟩
        · cases h2 : Qm.fig s[k].toNat
          · go_wp2_with (first | (go_at_call 116; refine (l2Low_any _ _).mono ?_; rintro e w' ⟨rfl, rfl⟩) | (go_at_call 117; refine (l2Figure_any _ _).mono ?_; rintro e w' ⟨rfl, rfl⟩))
            go_ret
            exact ⟨lret_bool (by rw [HR.out, HS.out]; simp [Qm.okAt, h1, h2]), rfl⟩
          · go_wp2_with (first | (go_at_call 116; refine (l2Low_any _ _).mono ?_; rintro e w' ⟨rfl, rfl⟩) | (go_at_call 117; refine (l2Figure_any _ _).mono ?_; rintro e w' ⟨rfl, rfl⟩))
            go_round
            case rel => exact ⟨k + 1, by omega, by go_num, by rw [HR.out, HS.out]; simp [Qm.okAt, h1, h2, h0]⟩
            case measure => simp [intOf]; omega
      · go_wp2_with (first | (go_at_call 116; refine (l2Low_any _ _).mono ?_; rintro e w' ⟨rfl, rfl⟩) | (go_at_call 117; refine (l2Figure_any _ _).mono ?_; rintro e w' ⟨rfl, rfl⟩))
        go_round
        case rel => exact ⟨k + 1, by omega, by go_num, by rw [HR.out, HS.out]; simp [Qm.okAt, h1]⟩
        case measure => simp [intOf]; omega
    · have HE : Hid (Qm.letters k (s.data.toList.drop k) = true) := by unfold Hid; rw [Qm.drop_end s k hlt]; rfl
      go_wp2_with (go_at_call 96; refine (l1In_l _ _ _ _).mono ?_; rintro e w' ⟨rfl, rfl⟩)
      go_ret
      exact ⟨lret_bool (by rw [HR.out, HE.out, Bool.eq_iff_iff]; simp; omega), rfl⟩

/-- the words, as byte arrays -/
def wordArrs : List ByteArray := [⟨#[110, 117, 108, 108]⟩, ⟨#[116, 114, 117, 101]⟩, ⟨#[102, 97, 108, 115, 101]⟩, ⟨#[105, 102]⟩, ⟨#[116, 104, 101, 110]⟩, ⟨#[101, 108, 115, 101]⟩, ⟨#[108, 111, 99, 97, 108]⟩, ⟨#[102, 117, 110, 99, 116, 105, 111, 110]⟩, ⟨#[115, 101, 108, 102]⟩, ⟨#[115, 117, 112, 101, 114]⟩, ⟨#[101, 114, 114, 111, 114]⟩, ⟨#[105, 109, 112, 111, 114, 116]⟩, ⟨#[102, 111, 114]⟩, ⟨#[105, 110]⟩, ⟨#[115, 116, 100]⟩]
theorem wordArrs_lists : wordArrs.map ByteArray.toList = Qm.words := by decide +kernel
theorem wordArrs_cells (w : World) : ∀ k (h : k < wordArrs.length), (w.alloc (.cells wordTexts 9)).cell? ⟨w.heap.size, k, none⟩ = some (.string wordArrs[k]) := by
  intro k h
  have h' : k < 15 := h
  simp only [wordTexts]
  have : k = 0 ∨ k = 1 ∨ k = 2 ∨ k = 3 ∨ k = 4 ∨ k = 5 ∨ k = 6 ∨ k = 7 ∨ k = 8 ∨ k = 9 ∨ k = 10 ∨ k = 11 ∨ k = 12 ∨ k = 13 ∨ k = 14 := by omega
  rcases this with rfl | rfl | rfl | rfl | rfl | rfl | rfl | rfl | rfl | rfl | rfl | rfl | rfl | rfl | rfl
  all_goals simp [wordArrs]

set_option maxHeartbeats 400000 in
theorem sNameOk_any (s : ByteArray) (w : World) (hs : s.size ≤ maxLen) :
    Calls Try.prog 97 #[.string s] w fun e w' => e = .returned (.bool (Qm.name s)) ∧ Below w.heap.size w w' := by
  cases h : (Qm.letters 0 s.data.toList && (decide (1 ≤ s.size) && decide (s.size ≤ 12)))
  · go_enter Try.func97, Try.ntmps97
    go_wp2_with (go_at_call 112; refine (l2Letters_any _ _ hs).mono ?_; rintro e w' ⟨rfl, rfl⟩)
    go_ret
    exact ⟨lret_bool (by unfold Qm.name; rw [h]; rfl), Below.refl _ _⟩
  · have HH := l2Has_any w.heap.size 15 wordArrs s (w.alloc (.cells wordTexts 9)) rfl (by omega) (wordArrs_cells w)
    rw [wordArrs_lists] at HH
    cases hw : Qm.has Qm.words s.toList
    all_goals
      rw [hw] at HH
      go_enter Try.func97, Try.ntmps97
      go_wp2_with (first | (go_at_call 112; refine (l2Letters_any _ _ hs).mono ?_; rintro e w' ⟨rfl, rfl⟩) | (go_at_call 113; refine (l2Words_any _).mono ?_; rintro e w' ⟨rfl, rfl⟩) | (go_at_call 89; refine HH.mono ?_; rintro e w' ⟨rfl, rfl⟩))
      go_ret
      exact ⟨lret_bool (by unfold Qm.name; rw [h, hw]; rfl), (Below.refl _ _).alloc (Nat.le_refl _) _⟩

set_option maxHeartbeats 400000 in
theorem iNameOk_any (s : ByteArray) (w : World) (hs : s.size ≤ maxLen) :
    Calls Try.prog 150 #[.string s] w fun e w' => e = .returned (.bool (Qm.name s)) ∧ w' = w := by
  by_cases h0 : 0 < s.size
  · have hne : (s.toList == []) = false := by rw [beq_eq_false_iff_ne]; intro h; rw [ByteArray.toList_eq] at h; have := Qm.len_eq s; rw [h] at this; simp at this; omega
    by_cases h12 : s.size ≤ 12
    · have HN := Qm.name_eq s h0
      have HN' : Hid (Qm.name s = (decide (s.size ≤ 12) && (Qm.low s[0].toNat && (decide (Qm.run Qm.part s.data.toList = s.size) && !Qm.has Qm.words s.toList)))) := HN
      clear HN
      have hR := Qm.run_le Qm.part s.data.toList
      simp at hR
      cases hl : Qm.low s[0].toNat
      · go_enter Try.func150, Try.ntmps150
        go_wp2_with (go_at_call 151; refine (isLetter_any _ _).mono ?_; rintro e w' ⟨rfl, rfl⟩)
        go_ret
        exact ⟨lret_bool (by rw [HN'.out, hl]; simp), rfl⟩
      · by_cases hr : Qm.run Qm.part s.data.toList = s.size
        · cases hw : Qm.has Qm.words s.toList
          all_goals
            go_enter Try.func150, Try.ntmps150
            go_wp2_with (first | (go_at_call 151; refine (isLetter_any _ _).mono ?_; rintro e w' ⟨rfl, rfl⟩) | (go_at_call 152; refine (runLength_part _ _ hs).mono ?_; rintro e w' ⟨rfl, rfl⟩) | (go_at_call 154; refine (isWord_any _ _).mono ?_; rintro e w' ⟨rfl, rfl⟩))
            go_ret
            exact ⟨lret_bool (by rw [HN'.out, hl, hr, hw]; simp [h12]), rfl⟩
        · have hr' : ((Qm.run Qm.part s.data.toList : Int) == s.size) = false := by simp; omega
          go_enter Try.func150, Try.ntmps150
          go_wp2_with (first | (go_at_call 151; refine (isLetter_any _ _).mono ?_; rintro e w' ⟨rfl, rfl⟩) | (go_at_call 152; refine (runLength_part _ _ hs).mono ?_; rintro e w' ⟨rfl, rfl⟩) | (go_at_call 154; refine (isWord_any _ _).mono ?_; rintro e w' ⟨rfl, rfl⟩))
          go_ret
          exact ⟨lret_bool (by rw [HN'.out, hl]; simp [hr]), rfl⟩
    · have HN : Hid (Qm.name s = false) := Qm.name_long s h12
      go_enter Try.func150, Try.ntmps150
      go_wp2_with fail
      go_ret
      exact ⟨lret_bool (by rw [HN.out]), rfl⟩
  · have HN : Hid (Qm.name s = false) := Qm.name_none s h0
    have hne : (s.toList == []) = true := by rw [beq_iff_eq]; apply List.eq_nil_of_length_eq_zero; rw [ByteArray.toList_eq, Qm.len_eq]; omega
    go_enter Try.func150, Try.ntmps150
    go_wp2_with fail
    go_ret
    exact ⟨lret_bool (by rw [HN.out]), rfl⟩
end Go.Proofs.Ytafhpplhlmlfhaa
/- A map of texts and numbers, as it is made of a literal and looked into. -/
namespace Go.Proofs.Ytafhpplhlmlfhaa
open Go.RowKit
/-- the entries of a map, born one after the other -/
def ents : List (ByteArray × Int) → Nat → List MapEntry
  | [], _ => []
  | (s, v) :: t, n => { key := .string s, val := .int .i64 v, born := n } :: ents t (n + 1)
def seek (s : ByteArray) : List (ByteArray × Int) → Nat → Option (Nat × Value)
  | [], _ => none
  | (x, v) :: t, i => if s == x then some (i, .int .i64 v) else seek s t (i + 1)
/-- what stands there, or 0 -/
def seekV (s : ByteArray) : List (ByteArray × Int) → Int
  | [] => 0
  | (x, v) :: t => if s == x then v else seekV s t
theorem findNow_ents (s : ByteArray) : ∀ (L : List (ByteArray × Int)) (n i : Nat), Instr.findNow .string (.string s) (ents L n) i = some (seek s L i) := by
  intro L
  induction L with
  | nil => intro n i; rfl
  | cons p t ih =>
    obtain ⟨x, v⟩ := p
    intro n i
    show (match Instr.sameNow .string (.string s) (.string x) with
      | some true => some (some (i, Value.int .i64 v))
      | some false => Instr.findNow .string (.string s) (ents t (n + 1)) (i + 1)
      | none => none) = some (if s == x then some (i, Value.int .i64 v) else seek s t (i + 1))
    show (match some (s == x) with
      | some true => some (some (i, Value.int .i64 v))
      | some false => Instr.findNow .string (.string s) (ents t (n + 1)) (i + 1)
      | none => none) = some (if s == x then some (i, Value.int .i64 v) else seek s t (i + 1))
    cases h : (s == x)
    · simp [ih]
    · simp
theorem ents_snoc (s : ByteArray) (v : Int) : ∀ (L : List (ByteArray × Int)) (n : Nat), ents (L ++ [(s, v)]) n = ents L n ++ [{ key := .string s, val := .int .i64 v, born := n + L.length }] := by
  intro L
  induction L with
  | nil => intro n; rfl
  | cons p t ih =>
    obtain ⟨x, u⟩ := p
    intro n
    show _ :: ents (t ++ [(s, v)]) (n + 1) = _ :: (ents t (n + 1) ++ _)
    rw [ih (n + 1)]
    simp
    omega
theorem seek_val (s : ByteArray) : ∀ (L : List (ByteArray × Int)) (i : Nat), (match seek s L i with | some (_, v) => v | none => Value.int .i64 0) = Value.int .i64 (seekV s L) := by
  intro L
  induction L with
  | nil => intro i; rfl
  | cons p t ih =>
    obtain ⟨x, v⟩ := p
    intro i
    unfold seek seekV
    cases h : (s == x)
    · simpa using ih (i + 1)
    · simp
/-- block b is that map -/
def IsMap (w : World) (b : Nat) (L : List (ByteArray × Int)) : Prop := w.heap[b]? = some (.map (ents L 0).toArray L.length)
theorem IsMap.grown {w w' : World} {b : Nat} {L : List (ByteArray × Int)} (h : IsMap w b L) (hb : Below w.heap.size w w') : IsMap w' b L := by
  have hlt := (Array.getElem?_eq_some_iff.1 h).1
  exact (hb.block b hlt).trans h
theorem run_insert_new {P : Program} {w : World} {mty kt et : TypeId} {b : Nat} {L : List (ByteArray × Int)} {s : ByteArray} {v : Int} (hm : P.underlying mty = some (.map kt et)) (hk : P.underlying kt = some .string)
    (hb : IsMap w b L) (hf : seek s L 0 = none) :
    (Instr.mapUpdate mty (.map (some b)) (.string s) (.int .i64 v)).run P w = .ok () { w with heap := w.heap.setIfInBounds b (.map (ents (L ++ [(s, v)]) 0).toArray (L ++ [(s, v)]).length) } := by
  have hff : Instr.findNow .string (.string s) (ents L 0).toArray.toList 0 = some none := by rw [List.toList_toArray, findNow_ents, hf]
  have hc : (Instr.checkKey false 10000 kt (.string s)).run P w = .ok () w := MapKept.run_checkKey (k := .string s) hk (by simp [MapKept.IsKey]) false 9999
  have e : (ents (L ++ [(s, v)]) 0).toArray = (ents L 0).toArray.push { key := .string s, val := .int .i64 v, born := L.length } := by rw [ents_snoc]; simp
  rw [e]
  simp [Instr.mapUpdate, run_underlying hm, MapKept.run_getObj_map hb, hc, MapKept.run_findKey hk hff, MapKept.run_setObj_map _ hb, Result.andThen]
theorem run_look {P : Program} {w : World} {mty kt et : TypeId} {b : Nat} {L : List (ByteArray × Int)} {s : ByteArray} (hm : P.underlying mty = some (.map kt et)) (hk : P.underlying kt = some .string)
    (hz : (zeroValue et).run P w = .ok (.int .i64 0) w) (hb : IsMap w b L) :
    (Instr.lookup mty (.map (some b)) (.string s) false).run P w = .ok (.int .i64 (seekV s L)) w := by
  have hff : Instr.findNow .string (.string s) (ents L 0) 0 = some (seek s L 0) := findNow_ents s L 0 0
  have hc : ∀ em, (Instr.checkKey em 10000 kt (.string s)).run P w = .ok () w := fun em => MapKept.run_checkKey (k := .string s) hk (by simp [MapKept.IsKey]) em 9999
  have hv := seek_val s L 0
  cases h : seek s L 0 with
  | none => rw [h] at hv hff; rw [← hv]; simp [Instr.lookup, run_underlying hm, MapKept.run_getObj_map hb, hc, MapKept.run_findKey hk hff, hz]
  | some p => obtain ⟨i, v⟩ := p; rw [h] at hv hff; rw [← hv]; simp [Instr.lookup, run_underlying hm, MapKept.run_getObj_map hb, hc, MapKept.run_findKey hk hff]
/-- an entry of a map's literal is put in -/
theorem wpList_insert {P : Program} (w : World) {ops : Array Oper} {rest : List Oper} {o : Oper} {a : Act} {Q : Exit → Act → World → Prop}
    (hg : o.guard = none) (m x v : Operand) (t : TypeId) (hop : o.op = Op.insert t m x v) (k e : TypeId) (ht : P.underlying t = some (.map k e)) (hk : P.underlying k = some .string) (b : Nat) (L : List (ByteArray × Int))
    (hm : a.eval m = .map (some b)) (hb : IsMap w b L) (s : ByteArray) (z : Int) (hx : a.eval x = .string s) (hv : a.eval v = .int .i64 z) (hf : seek s L 0 = none)
    (hK : ∀ w', IsMap w' b (L ++ [(s, z)]) → w.grownBy w' (some b) → wpList P ops Q rest (a.put o.dst undef) w') :
    wpList P ops Q (o :: rest) a w := by
  refine wpList_plain hg fun K' hK' => ?_
  have hrun := run_insert_new (v := z) ht hk hb hf
  have hlt := (Array.getElem?_eq_some_iff.1 hb).1
  unfold Oper.wp
  simp [execOp, hop, hm, hx, hv, hrun, Result.andThen]
  refine hK' _ _ (hK _ ?_ ⟨rfl, rfl, rfl, by simp, fun i _ hi => ?_⟩)
  · unfold IsMap
    simp [hlt]
  · have hne : b ≠ i := fun e => hi (by rw [e])
    simp [hne]
theorem beq_list (s : ByteArray) (l : List UInt8) : (s == ⟨l.toArray⟩) = (s.toList == l) := by
  rw [Bool.eq_iff_iff, MapKept.bytes_beq, beq_iff_eq, ByteArray.toList_eq]
  constructor
  · intro h; subst h; simp
  · intro h; subst h; cases s; simp
end Go.Proofs.Ytafhpplhlmlfhaa
