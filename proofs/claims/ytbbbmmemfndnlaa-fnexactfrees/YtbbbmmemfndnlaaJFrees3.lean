/- My own texts, joined: FoC FoD FoE FoO OkS FoG Lo Va Ua Uc Rw. -/
import Derived.Test.YtbbbmmemfndnlaaJFrees0
import Derived.Test.YtbbbmmemfndnlaaJFrees1
import Derived.Laws.MakeOwn
import Derived.Deep.RegionHeld3
import Derived.Deep.DeepCutAuto
import Derived.Deep.Slices
import Derived.OpenShut
import Derived.Test.YtbbbmmemfndnlaaJFrees2
import Derived.Deep.AppendLies
import Derived.Laws.OwnMore
import Derived.Maps.AppendAt
import Derived.Laws.Slices
/- Trees: two lists of trees that are alike; a list that is being copied, element by element, into one new block. -/
namespace Go.Proofs.Ytbbbmmemfndnlaa
open Go.RowKit
/-- the same but for where they lie -/
def Fo.alike : Fo → Fo → Prop
  | .nil, .nil => True
  | .cons k t m e _ _ kids next, .cons k' t' m' e' _ _ kids' next' => (k = k' ∧ t = t' ∧ m = m' ∧ e = e') ∧ kids.alike kids' ∧ next.alike next'
  | _, _ => False
theorem Fo.alike_nil {F : Fo} (h : F.alike .nil) : F = .nil := by cases F with
  | nil => rfl
  | cons => exact h.elim
theorem Fo.alike_cons {F : Fo} {k : Int} {t : ByteArray} {m e : Int} {a : Option Addr} {c : Nat} {kids next : Fo} (h : F.alike (.cons k t m e a c kids next)) : ∃ a' c' kids' next', F = .cons k t m e a' c' kids' next' ∧ kids'.alike kids ∧ next'.alike next := by
  cases F with
  | nil => exact h.elim
  | cons k' t' m' e' a' c' kids' next' =>
    obtain ⟨⟨rfl, rfl, rfl, rfl⟩, h1, h2⟩ := h
    exact ⟨a', c', kids', next', rfl, h1, h2⟩
theorem Fo.alike_len : ∀ {G F : Fo}, F.alike G → F.len = G.len := by
  intro G
  induction G with
  | nil => intro F h; rw [Fo.alike_nil h]
  | cons k t m e a c kids next _ ih =>
    intro F h
    obtain ⟨a', c', kids', next', rfl, _, h2⟩ := Fo.alike_cons h
    show next'.len + 1 = next.len + 1
    rw [ih h2]
theorem Fo.alike_size : ∀ {G F : Fo}, F.alike G → F.size = G.size := by
  intro G
  induction G with
  | nil => intro F h; rw [Fo.alike_nil h]
  | cons k t m e a c kids next ih1 ih2 =>
    intro F h
    obtain ⟨a', c', kids', next', rfl, h1, h2⟩ := Fo.alike_cons h
    show kids'.size + 1 + next'.size = kids.size + 1 + next.size
    rw [ih1 h1, ih2 h2]
theorem Fo.alike_deep : ∀ {G F : Fo}, F.alike G → F.deep = G.deep := by
  intro G
  induction G with
  | nil => intro F h; rw [Fo.alike_nil h]
  | cons k t m e a c kids next ih1 ih2 =>
    intro F h
    obtain ⟨a', c', kids', next', rfl, h1, h2⟩ := Fo.alike_cons h
    show max (kids'.deep + 1) next'.deep = max (kids.deep + 1) next.deep
    rw [ih1 h1, ih2 h2]
/-- the lists below lie in such blocks only -/
def Fo.Blk (P : Nat → Prop) : Fo → Prop
  | .nil => True
  | .cons _ _ _ _ a _ kids next => (kids = .nil ∨ ∃ b' o', a = some ⟨b', o', none⟩ ∧ P b') ∧ kids.Blk P ∧ next.Blk P
theorem Fo.Blk.mono {P Q : Nat → Prop} (h : ∀ b, P b → Q b) : ∀ {F : Fo}, F.Blk P → F.Blk Q := by
  intro F
  induction F with
  | nil => exact fun _ => trivial
  | cons k t m e a c kids next ih1 ih2 =>
    rintro ⟨h0, h1, h2⟩
    refine ⟨?_, ih1 h1, ih2 h2⟩
    rcases h0 with h0 | ⟨b', o', e1, e2⟩
    · exact .inl h0
    · exact .inr ⟨b', o', e1, h _ e2⟩
/-- in a world that holds the same in those blocks the list lies as it did -/
theorem Fo.from_agree {P : Nat → Prop} {w w' : World} (h : ∀ b o v, P b → w.cell? ⟨b, o, none⟩ = some v → w'.cell? ⟨b, o, none⟩ = some v) : ∀ (F : Fo) (b o : Nat), P b → F.Blk P → F.From w b o → F.From w' b o := by
  intro F
  induction F with
  | nil => intro b o _ _ _; trivial
  | cons k t m e a c kids next ih1 ih2 =>
    rintro b o hb ⟨h0, hb1, hb2⟩ ⟨⟨h1, h2, h3, h4, h5⟩, hk, hc, hm, ht, hn⟩
    refine ⟨⟨h _ _ _ hb h1, h _ _ _ hb h2, h _ _ _ hb h3, h _ _ _ hb h4, h _ _ _ hb h5⟩, ?_, hc, hm, ht, ih2 _ _ hb hb2 hn⟩
    rcases hk with hk | ⟨b', o', e1, e2⟩
    · exact .inl hk
    · rcases h0 with h0 | ⟨b'', o'', e3, e4⟩
      · exact .inl h0
      · rw [e1] at e3
        have e5 : b' = b'' := by simpa using congrArg (Option.map Addr.block) e3
        subst e5
        exact .inr ⟨b', o', e1, ih1 _ _ e4 hb1 e2⟩
/-- from cell o of block nb on lies a tree like this one -/
def Cop (P : Nat → Prop) (w : World) (nb o : Nat) (k : Int) (t : ByteArray) (m e : Int) (kids : Fo) : Prop :=
  ∃ (a' : Option Addr) (c' : Nat) (kids' : Fo), (w.cell? ⟨nb, o, none⟩ = some (.int .i64 k) ∧ w.cell? ⟨nb, o + 1, none⟩ = some (.string t) ∧ w.cell? ⟨nb, o + 2, none⟩ = some (.int .i64 m) ∧ w.cell? ⟨nb, o + 3, none⟩ = some (.int .i64 e) ∧ w.cell? ⟨nb, o + 4, none⟩ = some (.slice a' kids'.len c')) ∧
    (kids' = .nil ∨ ∃ b' o', a' = some ⟨b', o', none⟩ ∧ P b' ∧ kids'.From w b' o') ∧ kids'.Blk P ∧ kids'.alike kids ∧ kids'.len ≤ c' ∧ c' ≤ maxLen ∧ t.size ≤ maxLen
theorem Cop.agree {P : Nat → Prop} {w w' : World} {nb o : Nat} {k : Int} {t : ByteArray} {m e : Int} {kids : Fo} (h : Cop P w nb o k t m e kids) (hP : ∀ b o v, P b → w.cell? ⟨b, o, none⟩ = some v → w'.cell? ⟨b, o, none⟩ = some v)
    (hnb : ∀ q v, q < 5 → w.cell? ⟨nb, o + q, none⟩ = some v → w'.cell? ⟨nb, o + q, none⟩ = some v) : Cop P w' nb o k t m e kids := by
  obtain ⟨a', c', kids', ⟨h1, h2, h3, h4, h5⟩, hk, hr⟩ := h
  refine ⟨a', c', kids', ⟨hnb 0 _ (by omega) h1, hnb 1 _ (by omega) h2, hnb 2 _ (by omega) h3, hnb 3 _ (by omega) h4, hnb 4 _ (by omega) h5⟩, ?_, hr⟩
  rcases hk with hk | ⟨b', o', e1, e2, e3⟩
  · exact .inl hk
  · exact .inr ⟨b', o', e1, e2, Fo.from_agree hP kids' b' o' e2 hr.1 e3⟩
/-- the first j of a list are copied -/
def Pre (P : Nat → Prop) (w : World) (nb : Nat) : Fo → Nat → Nat → Prop
  | _, _, 0 => True
  | .nil, _, _ + 1 => True
  | .cons k t m e _ _ kids next, o, j + 1 => Cop P w nb o k t m e kids ∧ Pre P w nb next (o + 5) j
theorem Pre.agree {P : Nat → Prop} {w w' : World} {nb : Nat} (hP : ∀ b o v, P b → w.cell? ⟨b, o, none⟩ = some v → w'.cell? ⟨b, o, none⟩ = some v) :
    ∀ (F : Fo) (o j : Nat), (∀ o' v, o' < o + 5 * j → w.cell? ⟨nb, o', none⟩ = some v → w'.cell? ⟨nb, o', none⟩ = some v) → Pre P w nb F o j → Pre P w' nb F o j := by
  intro F
  induction F with
  | nil => intro o j _ _; cases j <;> trivial
  | cons k t m e a c kids next _ ih =>
    intro o j hnb h
    cases j with
    | zero => trivial
    | succ j =>
      obtain ⟨h1, h2⟩ := h
      exact ⟨h1.agree hP (fun q v hq => hnb _ v (by omega)), ih _ _ (fun o' v ho => hnb o' v (by omega)) h2⟩
def Fo.drop : Fo → Nat → Fo
  | F, 0 => F
  | .nil, _ + 1 => .nil
  | .cons _ _ _ _ _ _ _ next, j + 1 => next.drop j
theorem Fo.drop_next : ∀ {F : Fo} {j : Nat} {k : Int} {t : ByteArray} {m e : Int} {a : Option Addr} {c : Nat} {kids next : Fo}, F.drop j = .cons k t m e a c kids next → F.drop (j + 1) = next := by
  intro F
  induction F with
  | nil => intro j; cases j <;> intro k t m e a c kids next h <;> cases h
  | cons k0 t0 m0 e0 a0 c0 kids0 next0 _ ih =>
    intro j k t m e a c kids next h
    cases j with
    | zero => cases h; show next0.drop 0 = next0; cases next0 <;> rfl
    | succ j => exact ih h
theorem Pre.snoc {P : Nat → Prop} {w : World} {nb : Nat} : ∀ {F : Fo} {o j : Nat} {k : Int} {t : ByteArray} {m e : Int} {a : Option Addr} {c : Nat} {kids next : Fo}, F.drop j = .cons k t m e a c kids next → Pre P w nb F o j → Cop P w nb (o + 5 * j) k t m e kids → Pre P w nb F o (j + 1) := by
  intro F
  induction F with
  | nil => intro o j; cases j <;> intro k t m e a c kids next h <;> cases h
  | cons k0 t0 m0 e0 a0 c0 kids0 next0 _ ih =>
    intro o j k t m e a c kids next h hp hc
    cases j with
    | zero =>
      cases h
      refine ⟨by simpa using hc, ?_⟩
      unfold Pre; trivial
    | succ j =>
      obtain ⟨h1, h2⟩ := hp
      refine ⟨h1, ih h h2 ?_⟩
      rw [show o + 5 + 5 * j = o + 5 * (j + 1) by omega]; exact hc
/-- all are copied: there lies a list like it -/
theorem Pre.done {P : Nat → Prop} {w : World} {nb : Nat} : ∀ (F : Fo) (o j : Nat), F.len ≤ j → Pre P w nb F o j → ∃ F' : Fo, F'.alike F ∧ F'.Blk P ∧ F'.From w nb o := by
  intro F
  induction F with
  | nil => intro o j _ _; exact ⟨.nil, trivial, trivial, trivial⟩
  | cons k t m e a c kids next _ ih =>
    intro o j hj h
    have hj' : next.len + 1 ≤ j := hj
    obtain ⟨j, rfl⟩ : ∃ i, j = i + 1 := ⟨j - 1, by omega⟩
    obtain ⟨⟨a', c', kids', hcells, hk, hB, hA, hl, hm, ht⟩, h2⟩ := h
    obtain ⟨next', hA2, hB2, hF2⟩ := ih (o + 5) j (by omega) h2
    refine ⟨.cons k t m e a' c' kids' next', ⟨⟨rfl, rfl, rfl, rfl⟩, hA, hA2⟩, ⟨?_, hB, hB2⟩, hcells, ?_, hl, hm, ht, hF2⟩
    · rcases hk with hk | ⟨b', o', e1, e2, _⟩
      · exact .inl hk
      · exact .inr ⟨b', o', e1, e2⟩
    · rcases hk with hk | ⟨b', o', e1, _, e3⟩
      · exact .inl hk
      · exact .inr ⟨b', o', e1, e3⟩
end Go.Proofs.Ytbbbmmemfndnlaa
/- Contracts over trees: the laws' own copy of a tree. -/
namespace Go.Proofs.Ytbbbmmemfndnlaa
open Go.RowKit
attribute [local go_sem] cell_alloc_is frozen_alloc_is
theorem nodeInfo : (Try.prog.info? 33).map (fun i => (i.zero, i.size, i.bytes)) = some (some (.agg #[.int .i64 0, .string ⟨#[]⟩, .int .i64 0, .int .i64 0, .slice none 0 0]), 5, 64) := by kernel_rfl
/-- the cells of so many new trees -/
def newCells (n : Nat) : Array Value := madeCells #[.int .i64 0, .string ⟨#[]⟩, .int .i64 0, .int .i64 0, .slice none 0 0] (n * 5)
theorem make_nodes (n : Nat) (hn : n ≤ 2000000) (w : World) : (Instr.makeSlice 31 (.int .i64 (n : Int)) (.int .i64 (n : Int))).run Try.prog w = .ok (.slice (some ⟨w.heap.size, 0, none⟩) n n) (w.alloc (.cells (newCells n) 33)) := by
  obtain ⟨i, hi, hzz⟩ := Option.map_eq_some_iff.1 nodeInfo
  simp only [Prod.mk.injEq] at hzz
  obtain ⟨hz, hs, hb⟩ := hzz
  have hr := run_make (P := Try.prog) w 31 33 i _ Try.underlying31 hi hz .i64 .i64 n n (by omega) (Int.le_refl _) (by rw [hb]; omega) (by omega)
  simp only [Int.toNat_natCast, hs] at hr
  exact hr
/-- block nb has cells for n trees, and they may be written -/
def Room (w : World) (nb n : Nat) : Prop := ∀ o, o < n * 5 → (∃ v, w.cell? ⟨nb, o, none⟩ = some v) ∧ w.frozen? ⟨nb, o, none⟩ = false
theorem room_new (w : World) (n : Nat) : Room (w.alloc (.cells (newCells n) 33)) w.heap.size n := by
  intro o ho
  have hs : (newCells n).size = n * 5 := size_madeCells _ _
  refine ⟨⟨(newCells n)[o]'(by omega), ?_⟩, by simp⟩
  rw [World.cell?_alloc_new]
  simp [show o < (newCells n).size by omega]
theorem Room.grow {w w' : World} {nb n : Nat} (h : Room w nb n) (hb : Below w.heap.size w w') : Room w' nb n := by
  intro o ho
  obtain ⟨⟨v, h1⟩, h2⟩ := h o ho
  have hl := World.block_lt_of_cell? w _ h1
  exact ⟨⟨v, (hb.cell (p := ⟨nb, o, none⟩) hl).trans h1⟩, (hb.frozen (p := ⟨nb, o, none⟩) hl).trans h2⟩
/-- a tree is written -/
def put5 (w : World) (nb o : Nat) (v0 v1 v2 v3 v4 : Value) : World := ((((w.setCell ⟨nb, o, none⟩ v0).setCell ⟨nb, o + 1, none⟩ v1).setCell ⟨nb, o + 2, none⟩ v2).setCell ⟨nb, o + 3, none⟩ v3).setCell ⟨nb, o + 4, none⟩ v4
theorem put5_other {w : World} {nb o b o' : Nat} {v0 v1 v2 v3 v4 : Value} (h : ¬ b = nb ∨ o' < o ∨ o + 5 ≤ o') : (put5 w nb o v0 v1 v2 v3 v4).cell? ⟨b, o', none⟩ = w.cell? ⟨b, o', none⟩ := by
  have ne : ∀ q, q < 5 → (⟨nb, o + q, none⟩ : Addr) ≠ ⟨b, o', none⟩ := by
    intro q hq e
    simp at e
    omega
  unfold put5
  rw [World.cell?_setCell_other _ _ _ _ (ne 4 (by omega)), World.cell?_setCell_other _ _ _ _ (ne 3 (by omega)), World.cell?_setCell_other _ _ _ _ (ne 2 (by omega)), World.cell?_setCell_other _ _ _ _ (ne 1 (by omega)), World.cell?_setCell_other _ _ _ _ (by simpa using ne 0 (by omega))]
theorem set_is {w : World} {b o o' : Nat} {v : Value} (h : ∃ u, w.cell? ⟨b, o', none⟩ = some u) : ∃ u, (w.setCell ⟨b, o, none⟩ v).cell? ⟨b, o', none⟩ = some u := by
  obtain ⟨u, hu⟩ := h
  exact cell?_setCell_some hu
theorem set_far {w : World} {b o o' : Nat} {v : Value} (h : o ≠ o') : (w.setCell ⟨b, o, none⟩ v).cell? ⟨b, o', none⟩ = w.cell? ⟨b, o', none⟩ := World.cell?_setCell_other _ _ _ _ (fun e => h (by simpa using congrArg Addr.off e))
theorem set_near {w : World} {b o : Nat} {v : Value} (h : ∃ u, w.cell? ⟨b, o, none⟩ = some u) : (w.setCell ⟨b, o, none⟩ v).cell? ⟨b, o, none⟩ = some v := by
  obtain ⟨u, hu⟩ := h
  exact World.cell?_setCell_same w _ v hu
theorem put5_cells {w : World} {nb o : Nat} {v0 v1 v2 v3 v4 : Value} (h : ∀ q, q < 5 → ∃ u, w.cell? ⟨nb, o + q, none⟩ = some u) :
    (put5 w nb o v0 v1 v2 v3 v4).cell? ⟨nb, o, none⟩ = some v0 ∧ (put5 w nb o v0 v1 v2 v3 v4).cell? ⟨nb, o + 1, none⟩ = some v1 ∧ (put5 w nb o v0 v1 v2 v3 v4).cell? ⟨nb, o + 2, none⟩ = some v2 ∧ (put5 w nb o v0 v1 v2 v3 v4).cell? ⟨nb, o + 3, none⟩ = some v3 ∧ (put5 w nb o v0 v1 v2 v3 v4).cell? ⟨nb, o + 4, none⟩ = some v4 := by
  have h0 := h 0 (by omega)
  have h1 := h 1 (by omega)
  have h2 := h 2 (by omega)
  have h3 := h 3 (by omega)
  have h4 := h 4 (by omega)
  unfold put5
  refine ⟨?_, ?_, ?_, ?_, ?_⟩
  · rw [set_far (by omega), set_far (by omega), set_far (by omega), set_far (by omega)]; exact set_near h0
  · rw [set_far (by omega), set_far (by omega), set_far (by omega)]; exact set_near (set_is h1)
  · rw [set_far (by omega), set_far (by omega)]; exact set_near (set_is (set_is h2))
  · rw [set_far (by omega)]; exact set_near (set_is (set_is (set_is h3)))
  · exact set_near (set_is (set_is (set_is (set_is h4))))
theorem put5_size (w : World) (nb o : Nat) (v0 v1 v2 v3 v4 : Value) : (put5 w nb o v0 v1 v2 v3 v4).heap.size = w.heap.size := by simp [put5, World.setCell]
theorem put5_below {B : Nat} {w0 w : World} {nb : Nat} (h : Below B w0 w) (hB : B ≤ nb) (o : Nat) (v0 v1 v2 v3 v4 : Value) : Below B w0 (put5 w nb o v0 v1 v2 v3 v4) :=
  ((((h.setCell (p := ⟨nb, o, none⟩) hB v0).setCell (p := ⟨nb, o + 1, none⟩) hB v1).setCell (p := ⟨nb, o + 2, none⟩) hB v2).setCell (p := ⟨nb, o + 3, none⟩) hB v3).setCell (p := ⟨nb, o + 4, none⟩) hB v4
theorem Room.put5 {w : World} {nb n : Nat} (h : Room w nb n) (o : Nat) (v0 v1 v2 v3 v4 : Value) : Room (put5 w nb o v0 v1 v2 v3 v4) nb n := by
  intro o' ho
  obtain ⟨h1, h2⟩ := h o' ho
  refine ⟨?_, by simpa [Go.Proofs.Ytbbbmmemfndnlaa.put5] using h2⟩
  unfold Go.Proofs.Ytbbbmmemfndnlaa.put5
  exact set_is (set_is (set_is (set_is (set_is h1))))

/-- five cells of a block, that may be written -/
def Five (w : World) (b : Nat) (v0 v1 v2 v3 v4 : Value) : Prop := (w.cell? ⟨b, 0, none⟩ = some v0 ∧ w.cell? ⟨b, 1, none⟩ = some v1 ∧ w.cell? ⟨b, 2, none⟩ = some v2 ∧ w.cell? ⟨b, 3, none⟩ = some v3 ∧ w.cell? ⟨b, 4, none⟩ = some v4) ∧ (w.frozen? ⟨b, 0, none⟩ = false ∧ w.frozen? ⟨b, 1, none⟩ = false ∧ w.frozen? ⟨b, 2, none⟩ = false ∧ w.frozen? ⟨b, 3, none⟩ = false ∧ w.frozen? ⟨b, 4, none⟩ = false)
theorem Five.new (w : World) (v0 v1 v2 v3 v4 : Value) (T : TypeId) : Five (w.alloc (.cells #[v0, v1, v2, v3, v4] T)) w.heap.size v0 v1 v2 v3 v4 := by
  refine ⟨⟨?_, ?_, ?_, ?_, ?_⟩, ?_, ?_, ?_, ?_, ?_⟩ <;> simp
theorem Five.lt {w : World} {b : Nat} {v0 v1 v2 v3 v4 : Value} (h : Five w b v0 v1 v2 v3 v4) : b < w.heap.size := World.block_lt_of_cell? w _ h.1.1
theorem Five.below {B : Nat} {w w' : World} {b : Nat} {v0 v1 v2 v3 v4 : Value} (h : Five w b v0 v1 v2 v3 v4) (hb : Below B w w') (hB : b < B) : Five w' b v0 v1 v2 v3 v4 := by
  obtain ⟨⟨a0, a1, a2, a3, a4⟩, f0, f1, f2, f3, f4⟩ := h
  exact ⟨⟨(hb.cell (p := ⟨b, 0, none⟩) hB).trans a0, (hb.cell (p := ⟨b, 1, none⟩) hB).trans a1, (hb.cell (p := ⟨b, 2, none⟩) hB).trans a2, (hb.cell (p := ⟨b, 3, none⟩) hB).trans a3, (hb.cell (p := ⟨b, 4, none⟩) hB).trans a4⟩, (hb.frozen (p := ⟨b, 0, none⟩) hB).trans f0, (hb.frozen (p := ⟨b, 1, none⟩) hB).trans f1, (hb.frozen (p := ⟨b, 2, none⟩) hB).trans f2, (hb.frozen (p := ⟨b, 3, none⟩) hB).trans f3, (hb.frozen (p := ⟨b, 4, none⟩) hB).trans f4⟩

theorem Five.setOther {w : World} {b : Nat} {v0 v1 v2 v3 v4 : Value} (h : Five w b v0 v1 v2 v3 v4) {j : Nat} (hj : ¬ b = j) (o : Nat) (u : Value) : Five (w.setCell ⟨j, o, none⟩ u) b v0 v1 v2 v3 v4 := by
  obtain ⟨⟨a0, a1, a2, a3, a4⟩, f0, f1, f2, f3, f4⟩ := h
  have far : ∀ o', (w.setCell ⟨j, o, none⟩ u).cell? ⟨b, o', none⟩ = w.cell? ⟨b, o', none⟩ := fun o' => World.cell?_setCell_other _ _ _ _ (fun e => hj (by simpa using congrArg Addr.block e.symm))
  exact ⟨⟨(far 0).trans a0, (far 1).trans a1, (far 2).trans a2, (far 3).trans a3, (far 4).trans a4⟩, by simpa using f0, by simpa using f1, by simpa using f2, by simpa using f3, by simpa using f4⟩
theorem Five.setNum {w : World} {b : Nat} {v0 v1 v2 v3 v4 : Value} (h : Five w b v0 v1 v2 v3 v4) (u2 u3 : Value) : Five ((w.setCell ⟨b, 2, none⟩ u2).setCell ⟨b, 3, none⟩ u3) b v0 v1 u2 u3 v4 := by
  obtain ⟨⟨a0, a1, a2, a3, a4⟩, f0, f1, f2, f3, f4⟩ := h
  refine ⟨⟨?_, ?_, ?_, ?_, ?_⟩, by simpa using f0, by simpa using f1, by simpa using f2, by simpa using f3, by simpa using f4⟩
  · rw [set_far (by omega), set_far (by omega)]; exact a0
  · rw [set_far (by omega), set_far (by omega)]; exact a1
  · rw [set_far (by omega)]; exact set_near ⟨_, a2⟩
  · exact set_near (set_is ⟨_, a3⟩)
  · rw [set_far (by omega), set_far (by omega)]; exact a4

end Go.Proofs.Ytbbbmmemfndnlaa
/- Contracts over trees: the laws' own comparison, of two trees that are alike. -/
namespace Go.Proofs.Ytbbbmmemfndnlaa
open Go.RowKit
attribute [local go_sem] cell_alloc_is frozen_alloc_is

/-- five cells from o on -/
def Cells5 (w : World) (b o : Nat) (k : Int) (t : ByteArray) (m e : Int) (v : Value) : Prop := w.cell? ⟨b, o, none⟩ = some (.int .i64 k) ∧ w.cell? ⟨b, o + 1, none⟩ = some (.string t) ∧ w.cell? ⟨b, o + 2, none⟩ = some (.int .i64 m) ∧ w.cell? ⟨b, o + 3, none⟩ = some (.int .i64 e) ∧ w.cell? ⟨b, o + 4, none⟩ = some v
theorem Cells5.grow {w w' : World} {b o : Nat} {k : Int} {t : ByteArray} {m e : Int} {v : Value} (h : Cells5 w b o k t m e v) (hb : Below w.heap.size w w') : Cells5 w' b o k t m e v := by
  obtain ⟨h1, h2, h3, h4, h5⟩ := h
  have hl := World.block_lt_of_cell? w _ h1
  exact ⟨(hb.cell (p := ⟨b, o, none⟩) hl).trans h1, (hb.cell (p := ⟨b, o + 1, none⟩) hl).trans h2, (hb.cell (p := ⟨b, o + 2, none⟩) hl).trans h3, (hb.cell (p := ⟨b, o + 3, none⟩) hl).trans h4, (hb.cell (p := ⟨b, o + 4, none⟩) hl).trans h5⟩
/-- two trees' cells, and nothing that was there has turned -/
abbrev Held2 (W0 : World) (b o b2 o2 : Nat) (k : Int) (t : ByteArray) (m e : Int) (v v2 : Value) (w : World) : Prop :=
  (w.cell? ⟨b, o, none⟩ = some (.int .i64 k) ∧ w.cell? ⟨b, o + 1, none⟩ = some (.string t) ∧ w.cell? ⟨b, o + 2, none⟩ = some (.int .i64 m) ∧ w.cell? ⟨b, o + 3, none⟩ = some (.int .i64 e) ∧ w.cell? ⟨b, o + 4, none⟩ = some v) ∧
  (w.cell? ⟨b2, o2, none⟩ = some (.int .i64 k) ∧ w.cell? ⟨b2, o2 + 1, none⟩ = some (.string t) ∧ w.cell? ⟨b2, o2 + 2, none⟩ = some (.int .i64 m) ∧ w.cell? ⟨b2, o2 + 3, none⟩ = some (.int .i64 e) ∧ w.cell? ⟨b2, o2 + 4, none⟩ = some v2) ∧ Below W0.heap.size W0 w
theorem Held2.grow {W0 w w' : World} {b o b2 o2 : Nat} {k : Int} {t : ByteArray} {m e : Int} {v v2 : Value} (h : Held2 W0 b o b2 o2 k t m e v v2 w) (hb : Below w.heap.size w w') : Held2 W0 b o b2 o2 k t m e v v2 w' :=
  ⟨Cells5.grow h.1 hb, Cells5.grow h.2.1 hb, h.2.2.trans (hb.mono h.2.2.size)⟩
theorem Held2.drew {W0 w : World} {b o b2 o2 : Nat} {k : Int} {t : ByteArray} {m e : Int} {v v2 : Value} (h : Held2 W0 b o b2 o2 k t m e v v2 w) : Held2 W0 b o b2 o2 k t m e v v2 w.drew := h.grow ((Below.refl _ _).drew)

set_option maxHeartbeats 1000000 in
theorem eqNodeS_step (N : Nat) (H : ∀ (k : Int) (t : ByteArray) (m e : Int) (a a2 : Option Addr) (c c2 : Nat) (F G : Fo) (w : World), F.size < N → F.alike G → F.In w a → G.In w a2 → F.len ≤ c → c ≤ maxLen → G.len ≤ c2 → c2 ≤ maxLen →
      Calls Try.prog 12 #[nodeV k t m e a F.len c, nodeV k t m e a2 G.len c2] w fun r w' => r = .returned (.bool true) ∧ Below w.heap.size w w') :
    ∀ (a a2 : Option Addr) (c c2 : Nat) (F G : Fo) (w : World), F.size ≤ N → F.alike G → F.In w a → G.In w a2 → F.len ≤ c → c ≤ maxLen → G.len ≤ c2 → c2 ≤ maxLen →
      Calls Try.prog 31 #[.slice a F.len c, .slice a2 G.len c2] w fun r w' => r = .returned (.bool true) ∧ Below w.heap.size w w' := by
  intro a a2 c c2 F G w hF hA hin hin2 hl hc hl2 hc2
  have hgl := Fo.alike_len hA
  have hll := F.len_le
  unfold maxLen at hc hc2
  obtain ⟨n, hn⟩ : ∃ n, n = F.len := ⟨_, rfl⟩
  rw [← hgl, ← hn]
  rw [← hgl, ← hn] at hl2
  rw [← hn] at hl hll
  have hnF : Hid (n = F.len) := hn
  have hnG : Hid (n = G.len) := hn.trans hgl
  clear hn hgl
  go_enter Try.func31, Try.ntmps31
  go_wp2_with fail
  go_loopw [5] (fun i wr => ∃ (j : Nat) (A B : Fo), i = .int .i64 j ∧ j + A.len = n ∧ A.size ≤ F.size ∧ A.alike B ∧ (A = .nil ∨ ∃ b o', a = some ⟨b, o', none⟩ ∧ A.From wr b (o' + j * 5)) ∧ (B = .nil ∨ ∃ b o', a2 = some ⟨b, o', none⟩ ∧ B.From wr b (o' + j * 5)) ∧ Below w.heap.size w wr) (fun i _ => n - (intOf i).toNat)
  case atStart =>
    refine ⟨0, F, G, rfl, by have := hnF.out; omega, Nat.le_refl _, hA, ?_, ?_, Below.refl _ _⟩
    · rcases hin with h | ⟨b, o', e1, e2⟩
      · exact .inl h
      · exact .inr ⟨b, o', e1, by simpa using e2⟩
    · rcases hin2 with h | ⟨b, o', e1, e2⟩
      · exact .inl h
      · exact .inr ⟨b, o', e1, by simpa using e2⟩
  case round =>
    obtain ⟨j, A, B, rfl, hj, hs, hAB, hGA, hGB, hb⟩ := hrel
    cases B with
    | nil =>
      have e := Fo.alike_nil hAB
      subst e
      have hj' : j = n := by simpa [Fo.len] using hj
      subst hj'
      clear hj hs hGA hGB H hAB hin hin2 hA
      go_wp2_with fail
      go_ret
      exact ⟨rfl, hb⟩
    | cons k' t' m' e' a' c' kids next =>
      obtain ⟨a1, c1, kids1, next1, rfl, hk1, hn1⟩ := Fo.alike_cons hAB
      rcases hGA with hG | ⟨b, o', rfl, ⟨x1, x2, x3, x4, x5⟩, xk, xc1, xc2, _, xn⟩
      · cases hG
      rcases hGB with hG | ⟨b2, o2, rfl, ⟨y1, y2, y3, y4, y5⟩, yk, yc1, yc2, _, yn⟩
      · cases hG
      have hln : j + (next1.len + 1) = n := hj
      have hlt : (j : Int) < (n : Int) := by omega
      have hjl : j < n := by omega
      have hss : kids1.size + 1 + next1.size ≤ F.size := hs
      clear hj hs hAB hin hin2 hA
      have hS0 : Held2 wr b (o' + j * 5) b2 (o2 + j * 5) k' t' m' e' (.slice a1 kids1.len c1) (.slice a' kids.len c') wr := ⟨⟨x1, x2, x3, x4, x5⟩, ⟨y1, y2, y3, y4, y5⟩, Below.refl _ _⟩
      have HX : Hid (next1.From wr b (o' + j * 5 + 5) ∧ next.From wr b2 (o2 + j * 5 + 5) ∧ next1.alike next) := ⟨xn, yn, hn1⟩
      have HK : Hid (kids1.In wr a1 ∧ kids.In wr a' ∧ kids1.alike kids) := ⟨xk, yk, hk1⟩
      clear xn yn xk yk hk1 hn1
      go_wp2_with fail
      (go_region_held3 (fun w' => (w'.cell? ⟨b, o' + j * 5, none⟩ = some (.int .i64 k') ∧ w'.cell? ⟨b, o' + j * 5 + 1, none⟩ = some (.string t') ∧ w'.cell? ⟨b, o' + j * 5 + 2, none⟩ = some (.int .i64 m') ∧ w'.cell? ⟨b, o' + j * 5 + 3, none⟩ = some (.int .i64 e') ∧ w'.cell? ⟨b, o' + j * 5 + 4, none⟩ = some (.slice a1 kids1.len c1)) ∧ (w'.cell? ⟨b2, o2 + j * 5, none⟩ = some (.int .i64 k') ∧ w'.cell? ⟨b2, o2 + j * 5 + 1, none⟩ = some (.string t') ∧ w'.cell? ⟨b2, o2 + j * 5 + 2, none⟩ = some (.int .i64 m') ∧ w'.cell? ⟨b2, o2 + j * 5 + 3, none⟩ = some (.int .i64 e') ∧ w'.cell? ⟨b2, o2 + j * 5 + 4, none⟩ = some (.slice a' kids.len c')) ∧ Below wr.heap.size wr w') (first | exact hS0.drew | exact hS0 | assumption) ((go_at_call 12; refine (H k' t' m' e' a1 a' c1 c' kids1 kids _ (by omega) HK.out.2.2 (HK.out.1.grow (by assumption : Held2 wr b (o' + j * 5) b2 (o2 + j * 5) k' t' m' e' (.slice a1 kids1.len c1) (.slice a' kids.len c') _).2.2) (HK.out.2.1.grow (by assumption : Held2 wr b (o' + j * 5) b2 (o2 + j * 5) k' t' m' e' (.slice a1 kids1.len c1) (.slice a' kids.len c') _).2.2) xc1 xc2 yc1 yc2).mono ?_; rintro r w1 ⟨rfl, hb1⟩; have hS : Held2 wr b (o' + j * 5) b2 (o2 + j * 5) k' t' m' e' (.slice a1 kids1.len c1) (.slice a' kids.len c') w1 := Held2.grow (by assumption) hb1)))
      have hB1 : Below wr.heap.size wr w1 := hS.2.2
      have hb2 := hb.trans (hB1.mono hb.size)
      clear hS0 hS hb1 x1 x2 x3 x4 x5 y1 y2 y3 y4 y5 H HK
      rename_i _ hHeld0
      clear hHeld0
      go_wp2_with fail
      go_round
      case rel =>
        obtain ⟨q1, q2, q3⟩ := HX.out
        refine ⟨j + 1, next1, next, by go_num, by omega, by omega, q3, .inr ⟨b, o', rfl, ?_⟩, .inr ⟨b2, o2, rfl, ?_⟩, hb2⟩
        · rw [show o' + (j + 1) * 5 = o' + j * 5 + 5 by omega]; exact Fo.from_grow hB1 _ _ _ q1
        · rw [show o2 + (j + 1) * 5 = o2 + j * 5 + 5 by omega]; exact Fo.from_grow hB1 _ _ _ q2
      case measure => simp [intOf]; omega

set_option maxHeartbeats 1000000 in
theorem eqNode_step (N : Nat) (H : ∀ (a a2 : Option Addr) (c c2 : Nat) (F G : Fo) (w : World), F.size ≤ N → F.alike G → F.In w a → G.In w a2 → F.len ≤ c → c ≤ maxLen → G.len ≤ c2 → c2 ≤ maxLen →
      Calls Try.prog 31 #[.slice a F.len c, .slice a2 G.len c2] w fun r w' => r = .returned (.bool true) ∧ Below w.heap.size w w') :
    ∀ (k : Int) (t : ByteArray) (m e : Int) (a a2 : Option Addr) (c c2 : Nat) (F G : Fo) (w : World), F.size ≤ N → F.alike G → F.In w a → G.In w a2 → F.len ≤ c → c ≤ maxLen → G.len ≤ c2 → c2 ≤ maxLen →
      Calls Try.prog 12 #[nodeV k t m e a F.len c, nodeV k t m e a2 G.len c2] w fun r w' => r = .returned (.bool true) ∧ Below w.heap.size w w' := by
  intro k t m e a a2 c c2 F G w hF hA hin hin2 hl hc hl2 hc2
  have htt : (t.toList != t.toList) = false := by simp
  go_enter Try.func12, Try.ntmps12
  go_wp2_with fail
  obtain ⟨W0, hW0⟩ : ∃ W0, W0 = (w.alloc (.cells #[.int .i64 k, .string t, .int .i64 m, .int .i64 e, .slice a F.len c] 33)).alloc (.cells #[.int .i64 k, .string t, .int .i64 m, .int .i64 e, .slice a2 G.len c2] 33) := ⟨_, rfl⟩
  have hB0 : Below w.heap.size w W0 := by subst hW0; exact (by (repeat' (first | assumption | exact Below.refl _ _ | refine Below.alloc ?_ ?_ _ | refine Below.setCell ?_ ?_ _ | refine Below.drew ?_ | refine below_drewN ?_ _)) <;> (first | omega | (simp <;> omega)))
  have A0 : W0.cell? ⟨w.heap.size, 4, none⟩ = some (.slice a F.len c) := by
    subst hW0
    exact ((Five.new w _ _ _ _ _ _).below ((Below.refl _ _).alloc (Nat.le_refl _) _) (by simp)).1.2.2.2.2
  have C0 : W0.cell? ⟨w.heap.size + 1, 4, none⟩ = some (.slice a2 G.len c2) := by
    subst hW0
    have := Five.new (w.alloc (.cells #[.int .i64 k, .string t, .int .i64 m, .int .i64 e, .slice a F.len c] 33)) (.int .i64 k) (.string t) (.int .i64 m) (.int .i64 e) (.slice a2 G.len c2) 33
    rw [World.size_alloc] at this
    exact this.1.2.2.2.2
  rw [← hW0]
  clear hW0
  refine (eqDec_any _ _ _ _ _).mono ?_
  rintro r w1 ⟨rfl, hb1⟩
  have A1 := (hb1.cell (p := ⟨w.heap.size, 4, none⟩) (World.block_lt_of_cell? W0 _ A0)).trans A0
  have C1 := (hb1.cell (p := ⟨w.heap.size + 1, 4, none⟩) (World.block_lt_of_cell? W0 _ C0)).trans C0
  have hB1 := hB0.trans (hb1.mono hB0.size)
  have hq : (decide (m = m) && decide (e = e)) = true := by simp
  clear A0 C0 hB0 hb1
  have HK : Hid (F.In w1 a ∧ G.In w1 a2) := ⟨hin.grow hB1, hin2.grow hB1⟩
  clear hin hin2
  go_wp2_with fail
  refine (H a a2 c c2 F G w1 hF hA HK.out.1 HK.out.2 hl hc hl2 hc2).mono ?_
  rintro r w2 ⟨rfl, hb2⟩
  have hB2 := hB1.trans (hb2.mono hB1.size)
  clear H HK hb2 hB1 A1 C1 hA
  go_wp2_with fail
  go_ret
  exact ⟨rfl, hB2⟩
theorem eqNode_all (N : Nat) : ∀ (k : Int) (t : ByteArray) (m e : Int) (a a2 : Option Addr) (c c2 : Nat) (F G : Fo) (w : World), F.size < N → F.alike G → F.In w a → G.In w a2 → F.len ≤ c → c ≤ maxLen → G.len ≤ c2 → c2 ≤ maxLen →
      Calls Try.prog 12 #[nodeV k t m e a F.len c, nodeV k t m e a2 G.len c2] w fun r w' => r = .returned (.bool true) ∧ Below w.heap.size w w' := by
  induction N with
  | zero => intro k t m e a a2 c c2 F G w hF; omega
  | succ N ih => exact fun k t m e a a2 c c2 F G w hF => eqNode_step N (eqNodeS_step N ih) k t m e a a2 c c2 F G w (by omega)
end Go.Proofs.Ytbbbmmemfndnlaa
/- Trees: what is read as a tree, or as a list of trees, is one: the argument of a law opened. -/
namespace Go.Proofs.Ytbbbmmemfndnlaa
open Go.RowKit Go.Deep Go.ChangeShapes Go.WideShapes
/-- all heads in it are such -/
def Fo.All (P : Int → ByteArray → Int → Int → Prop) : Fo → Prop
  | .nil => True
  | .cons k t m e _ _ kids next => P k t m e ∧ kids.All P ∧ next.All P
abbrev I64 (n : Int) : Prop := (Lit.int .i64 n).wf = true
/-- numbers that are numbers, texts that are no longer than texts can be -/
abbrev HeadOk (k : Int) (t : ByteArray) (m e : Int) : Prop := I64 k ∧ t.size ≤ maxLen ∧ I64 m ∧ I64 e
section
variable {H : Type} {enc : TypeId × Value → H} {W : World} {base : Nat} {spare : Nat → Bool} {held : Bool}
theorem cellsN : Try.prog.cellsOf 26 = 5 := by kernel_rfl
theorem cellsDec : Try.prog.cellsOf 23 = 2 := by kernel_rfl
theorem cellsInt : Try.prog.cellsOf 3 = 1 := by kernel_rfl
theorem cellsStr : Try.prog.cellsOf 9 = 1 := by kernel_rfl
theorem cellsNs : Try.prog.cellsOf 24 = 1 := by kernel_rfl
theorem list5 {α : Type} {cs : List α} (h : cs.length = 5) : ∃ c0 c1 c2 c3 c4, cs = [c0, c1, c2, c3, c4] := by
  match cs, h with
  | [c0, c1, c2, c3, c4], _ => exact ⟨c0, c1, c2, c3, c4, rfl⟩
theorem list4 {α : Type} {cs : List α} (h : cs.length = 4) : ∃ c0 c1 c2 c3, cs = [c0, c1, c2, c3] := by
  match cs, h with
  | [c0, c1, c2, c3], _ => exact ⟨c0, c1, c2, c3, rfl⟩
theorem list2 {α : Type} {cs : List α} (h : cs.length = 2) : ∃ c0 c1, cs = [c0, c1] := by
  match cs, h with
  | [c0, c1], _ => exact ⟨c0, c1, rfl⟩
theorem open_dec {fuel : Nat} {cs : List Value} {x : DataW H × List MemPlace} (h : DataW.trod enc Try.prog W base spare held fuel 23 cs = some x) :
    ∃ (m e : Int), cs = [.int .i64 m, .int .i64 e] ∧ I64 m ∧ I64 e := by
  obtain ⟨xs, n, rfl, _, hl, hxs, hf⟩ := DataW.trod_struct Try.underlying23 h
  rw [cellsDec] at hl
  obtain ⟨c0, c1, rfl⟩ := list2 hl
  obtain ⟨y0, y1, rfl⟩ := list2 (show xs.length = 2 from hxs)
  have h0 := hf 0 _ rfl
  have h1 := hf 1 _ rfl
  simp [cellsInt] at h0 h1
  obtain ⟨m, e0, _, w0⟩ := DataW.trod_int Try.underlying3 h0
  obtain ⟨e, e1, _, w1⟩ := DataW.trod_int Try.underlying3 h1
  simp at e0 e1
  subst e0 e1
  exact ⟨m, e, rfl, w0, w1⟩
theorem open_node {fuel : Nat} {cs : List Value} {x : DataW H × List MemPlace} (h : DataW.trod enc Try.prog W base spare held fuel 26 cs = some x) :
    ∃ (k : Int) (t : ByteArray) (m e : Int) (v : Value) (y : DataW H × List MemPlace) (n : Nat), fuel = n + 1 ∧ cs = [.int .i64 k, .string t, .int .i64 m, .int .i64 e, v] ∧ HeadOk k t m e ∧
      DataW.trod enc Try.prog W base spare held n 24 [v] = some y := by
  obtain ⟨xs, n, rfl, _, hl, hxs, hf⟩ := DataW.trod_struct Try.underlying26 h
  rw [cellsN] at hl
  obtain ⟨c0, c1, c2, c3, c4, rfl⟩ := list5 hl
  obtain ⟨y0, y1, y2, y3, rfl⟩ := list4 (show xs.length = 4 from hxs)
  have h0 := hf 0 _ rfl
  have h1 := hf 1 _ rfl
  have h2 := hf 2 _ rfl
  have h3 := hf 3 _ rfl
  simp [cellsInt, cellsStr, cellsDec, cellsNs] at h0 h1 h2 h3
  obtain ⟨k, e0, _, w0⟩ := DataW.trod_int Try.underlying3 h0
  obtain ⟨t, e1, _, w1⟩ := DataW.trod_string Try.underlying9 h1
  obtain ⟨m, e, e2, w2, w3⟩ := open_dec h2
  simp at e0 e1 e2
  obtain ⟨rfl, rfl⟩ := e2
  subst e0 e1
  exact ⟨k, t, m, e, c4, y3, n, rfl, rfl, ⟨w0, w1, w2, w3⟩, h3⟩
theorem add_none (b o i : Nat) : Addr.add ⟨b, o, none⟩ i = ⟨b, o + i, none⟩ := by
  by_cases hi0 : i = 0
  · subst hi0; simp [Addr.add]
  · simp [Addr.add, hi0]
theorem open_nodes : ∀ (fuel : Nat) (cs : List Value) (x : DataW H × List MemPlace), DataW.trod enc Try.prog W base spare held fuel 24 cs = some x →
    ∃ (a : Option Addr) (F : Fo) (cap : Nat), cs = [.slice a F.len cap] ∧ F.In W a ∧ F.len ≤ cap ∧ cap ≤ maxLen ∧ F.All HeadOk := by
  intro fuel
  induction fuel using Nat.strongRecOn with
  | _ fuel ih =>
    intro cs x h
    rcases DataW.trod_slice Try.underlying24 h with ⟨rfl, _⟩ | ⟨a, len, cap, elems, rest, n, rfl, rfl, _, _, hl, hm, hlen, hel, _⟩
    · exact ⟨none, .nil, 0, rfl, .inl rfl, Nat.le_refl _, by unfold maxLen; omega, trivial⟩
    rw [cellsN] at hel
    have key : ∀ i, i < len → ∃ (k : Int) (t : ByteArray) (m e : Int) (a' : Option Addr) (F' : Fo) (c' : Nat), HeadOk k t m e ∧ F'.In W a' ∧ F'.len ≤ c' ∧ c' ≤ maxLen ∧ F'.All HeadOk ∧
        (∀ j, j < 5 → W.cell? (a.add (i * 5 + j)) = ([.int .i64 k, .string t, .int .i64 m, .int .i64 e, .slice a' F'.len c'] : List Value)[j]?) := by
      intro i hi
      have he := hel i hi
      rw [List.getElem?_eq_getElem (by omega)] at he
      obtain ⟨cs', h1, h2⟩ := Option.bind_eq_some_iff.1 he
      obtain ⟨k, t, m, e, v, y, n', rfl, rfl, hh, h3⟩ := open_node h2
      obtain ⟨a', F', c', hv, hin, hc1, hc2, hA⟩ := ih n' (by omega) _ _ h3
      simp at hv
      subst hv
      obtain ⟨_, _, hc⟩ := World.cells?_some h1
      refine ⟨k, t, m, e, a', F', c', hh, hin, hc1, hc2, hA, fun j hj => ?_⟩
      rw [← add_add]
      exact hc j hj
    by_cases h0 : len = 0
    · subst h0
      exact ⟨some a, .nil, cap, rfl, .inl rfl, Nat.zero_le _, hm, trivial⟩
    obtain ⟨b, o, spot⟩ := a
    have hspot : spot = none := by
      obtain ⟨k, t, m, e, a', F', c', _, _, _, _, _, hc⟩ := key 0 (by omega)
      have := World.cell?_spot (hc 0 (by omega))
      simpa [Addr.add] using this
    subst hspot
    have all : ∀ d i, i + d = len → ∃ G : Fo, G.len = d ∧ G.From W b (o + i * 5) ∧ G.All HeadOk := by
      intro d
      induction d with
      | zero => intro i _; exact ⟨.nil, rfl, trivial, trivial⟩
      | succ d ihd =>
        intro i hi
        obtain ⟨k, t, m, e, a', F', c', hh, hin, hc1, hc2, hA, hc⟩ := key i (by omega)
        obtain ⟨G, hG1, hG2, hG3⟩ := ihd (i + 1) (by omega)
        have c0 := hc 0 (by omega)
        have c1 := hc 1 (by omega)
        have c2 := hc 2 (by omega)
        have c3 := hc 3 (by omega)
        have c4 := hc 4 (by omega)
        simp only [add_none] at c0 c1 c2 c3 c4
        refine ⟨.cons k t m e a' c' F' G, by show G.len + 1 = d + 1; omega, ⟨⟨c0, c1, c2, c3, c4⟩, hin, hc1, hc2, hh.2.1, ?_⟩, hh, hA, hG3⟩
        rw [show o + i * 5 + 5 = o + (i + 1) * 5 by omega]; exact hG2
    obtain ⟨F, hF1, hF2, hF3⟩ := all len 0 (by omega)
    subst hF1
    refine ⟨some ⟨b, o, none⟩, F, cap, rfl, .inr ⟨b, o, rfl, by simpa using hF2⟩, hl, hm, hF3⟩
set_option maxRecDepth 100000 in
/-- a tree that comes in, opened -/
theorem open_tree {r : Reach} {b0 : Nat} {v : Value} {d : DataW H} {p : List MemPlace} (hv : Value.okWide Try.prog W r b0 26 v) (h : DataW.Trod enc Try.prog W base spare held 26 v d p) :
    ∃ (k : Int) (t : ByteArray) (m e : Int) (a : Option Addr) (F : Fo) (c : Nat), v = nodeV k t m e a F.len c ∧ HeadOk k t m e ∧ F.In W a ∧ F.len ≤ c ∧ c ≤ maxLen ∧ F.All HeadOk := by
  obtain ⟨cs, rfl, _⟩ := okWide_struct Try.underlying26 hv
  obtain ⟨fuel, hf⟩ := h
  obtain ⟨k, t, m, e, v, y, n, rfl, hc, hh, h3⟩ := open_node hf
  obtain ⟨a, F, c, hv, hin, hc1, hc2, hA⟩ := open_nodes n _ _ h3
  simp at hv
  subst hv
  have : cs = #[.int .i64 k, .string t, .int .i64 m, .int .i64 e, .slice a F.len c] := by
    cases cs
    simpa [Value.cells] using hc
  subst this
  exact ⟨k, t, m, e, a, F, c, rfl, hh, hin, hc1, hc2, hA⟩
end
end Go.Proofs.Ytbbbmmemfndnlaa
/- TreeOk of the specification; the law FnExactTreeOk walked. -/
namespace Go.Proofs.Ytbbbmmemfndnlaa
open Go.RowKit
set_option maxRecDepth 100000 in
set_option maxHeartbeats 2000000 in
theorem sTreeOk_any (k : Int) (t : ByteArray) (m e : Int) (a : Option Addr) (c : Nat) (F : Fo) (w : World) (hF : F.size ≤ 1900000) (hin : F.In w a) (hl : F.len ≤ c) (hc : c ≤ maxLen) (ht : t.size ≤ maxLen) :
    Calls Try.prog 24 #[nodeV k t m e a F.len c] w fun r w' => Says (¬ k = 23 ∧ TreeGood k t m e F) r ∧ Below w.heap.size w w' := by
  have HG : Hid (¬ k = 23 ∧ TreeGood k t m e F ↔ (F.size + 1 ≤ 200 ∧ F.deep + 1 ≤ 20) ∧ okOne k t m e F = true) := by
    unfold Hid
    rw [good_iff, ok_iff (F.size + 1) k t m e F (by omega)]
    exact ⟨fun h => ⟨h.2.1, h.1, h.2.2⟩, fun h => ⟨h.2.1, h.1, h.2.2⟩⟩
  have hdd := F.deep_le
  have HS := fun W hW => sTreeSize_any (F.size + 1) k t m e a c F W (by omega) (by omega) hW hl hc
  have HD := fun W hW => sTreeDeep_any (F.size + 1) k t m e a c F W (by omega) (by omega) hW hl hc
  have HO := fun W hW => l3Ok_all (F.size + 1) k t m e a c F W (by omega) hW hl hc ht
  have HI : Hid (∀ W, Below w.heap.size w W → F.In W a) := fun W h => hin.grow h
  clear hin
  generalize F.size = sz at *
  generalize F.deep = dp at *
  generalize okOne k t m e F = ok at *
  go_enter Try.func24, Try.ntmps24
  have hB0 := (Below.refl _ w).alloc (Nat.le_refl _) (.cells #[.int .i64 k, .string t, .int .i64 m, .int .i64 e, .slice a F.len c] 33)
  have hf0 := Five.new w (.int .i64 k) (.string t) (.int .i64 m) (.int .i64 e) (.slice a F.len c) 33
  have hlt0 := hf0.lt
  go_wp2_with fail
  refine (HS _ (HI.out _ hB0)).mono ?_
  rintro r w1 ⟨rfl, hb1⟩
  have hB1 := hB0.trans (hb1.mono hB0.size)
  have hf1 := hf0.below hb1 hlt0
  have hlt1 := hf1.lt
  obtain ⟨⟨x0, x1, x2, x3, x4⟩, _⟩ := hf1
  clear hf0 hb1 hB0 HS
  by_cases h1 : sz + 1 ≤ 200
  · have h1' : ((sz + 1 : Nat) : Int) ≤ 200 := by omega
    go_wp2_with fail
    refine (HD _ (HI.out _ hB1)).mono ?_
    rintro r w2 ⟨rfl, hb2⟩
    have hB2 := hB1.trans (hb2.mono hB1.size)
    have y0 := (hb2.cell (p := ⟨w.heap.size, 0, none⟩) hlt1).trans x0
    have y1 := (hb2.cell (p := ⟨w.heap.size, 1, none⟩) hlt1).trans x1
    have y2 := (hb2.cell (p := ⟨w.heap.size, 2, none⟩) hlt1).trans x2
    have y3 := (hb2.cell (p := ⟨w.heap.size, 3, none⟩) hlt1).trans x3
    have y4 := (hb2.cell (p := ⟨w.heap.size, 4, none⟩) hlt1).trans x4
    clear x0 x1 x2 x3 x4 hb2 hB1 HD
    by_cases h2 : dp + 1 ≤ 20
    · have h2' : ((dp + 1 : Nat) : Int) ≤ 20 := by omega
      go_wp2_with fail
      refine (HO _ (HI.out _ hB2)).mono ?_
      rintro r w3 ⟨rfl, hb3⟩
      have hB3 := hB2.trans (hb3.mono hB2.size)
      go_wp2_with fail
      go_ret
      exact ⟨⟨ok, rfl, by rw [HG.out]; exact ⟨fun h => ⟨⟨h1, h2⟩, h⟩, fun h => h.2⟩⟩, hB3⟩
    · have h2' : ¬ ((dp + 1 : Nat) : Int) ≤ 20 := by omega
      go_wp2_with fail
      go_ret
      exact ⟨⟨false, rfl, by rw [HG.out]; exact ⟨fun h => (by cases h), fun h => absurd h.1.2 h2⟩⟩, hB2⟩
  · have h1' : ¬ ((sz + 1 : Nat) : Int) ≤ 200 := by omega
    go_wp2_with fail
    go_ret
    exact ⟨⟨false, rfl, by rw [HG.out]; exact ⟨fun h => (by cases h), fun h => absurd h.1.1 h1⟩⟩, hB1⟩
theorem Fo.alike_at : ∀ {G F : Fo}, F.alike G → ∀ i, F.kindAt i = G.kindAt i ∧ F.textAt i = G.textAt i := by
  intro G
  induction G with
  | nil => intro F h i; rw [Fo.alike_nil h]; exact ⟨rfl, rfl⟩
  | cons k t m e a c kids next _ ih =>
    intro F h i
    obtain ⟨a', c', kids', next', rfl, h1, h2⟩ := Fo.alike_cons h
    cases i with
    | zero => exact ⟨rfl, rfl⟩
    | succ i => exact ih h2 i
theorem Fo.alike_cnt {G F : Fo} (h : F.alike G) (q : Int) (n : Nat) : F.cnt q n = G.cnt q n := by
  induction n with
  | zero => rfl
  | succ n ih => show F.cnt q n + _ = G.cnt q n + _; rw [ih, (Fo.alike_at h n).1]
theorem Fo.alike_new {G F : Fo} (h : F.alike G) (i n : Nat) : F.newAt i n = G.newAt i n := by
  induction n with
  | zero => rfl
  | succ n ih => show (F.newAt i n && !((F.textAt i).toList == (F.textAt n).toList)) = (G.newAt i n && !((G.textAt i).toList == (G.textAt n).toList)); rw [ih, (Fo.alike_at h n).2, (Fo.alike_at h i).2]
theorem Fo.alike_dist {G F : Fo} (h : F.alike G) (n : Nat) : F.dist n = G.dist n := by
  induction n with
  | zero => rfl
  | succ n ih => show (F.dist n && F.newAt n n) = (G.dist n && G.newAt n n); rw [ih, Fo.alike_new h]
theorem Fo.alike_fit {G F : Fo} (h : F.alike G) (k : Int) (t : ByteArray) (m e : Int) : Om.fit k t m e F = Om.fit k t m e G := by
  unfold Om.fit Om.below
  rw [Fo.alike_len h, Fo.alike_cnt h, Fo.alike_cnt h, Fo.alike_dist h, Fo.alike_dist h]
theorem Fo.alike_allFit : ∀ {G F : Fo}, F.alike G → F.allFit = G.allFit := by
  intro G
  induction G with
  | nil => intro F h; rw [Fo.alike_nil h]
  | cons k t m e a c kids next ih1 ih2 =>
    intro F h
    obtain ⟨a', c', kids', next', rfl, h1, h2⟩ := Fo.alike_cons h
    show (Om.fit k t m e kids' && (kids'.allFit && next'.allFit)) = (Om.fit k t m e kids && (kids.allFit && next.allFit))
    rw [Fo.alike_fit h1, ih1 h1, ih2 h2]
theorem alike_good {G F : Fo} (h : F.alike G) (k : Int) (t : ByteArray) (m e : Int) : (¬ k = 23 ∧ TreeGood k t m e F) ↔ (¬ k = 23 ∧ TreeGood k t m e G) := by
  rw [good_iff, good_iff, Fo.alike_fit h, Fo.alike_allFit h, Fo.alike_size h, Fo.alike_deep h]
end Go.Proofs.Ytbbbmmemfndnlaa
/- Contracts over trees: the laws' own copy of a tree lies in cells that were never shared with a text (no part of a block is frozen). -/
namespace Go.Proofs.Ytbbbmmemfndnlaa
open Go.RowKit
attribute [local go_sem] cell_alloc_is frozen_alloc_is
/-- from a block on all blocks are cells, none of them frozen -/
def Clean (n : Nat) (w : World) : Prop := ∀ b o, n ≤ b → w.heap[b]? = some o → ∃ cs t, o = .cells cs t (0, 0)
theorem Clean.refl (w : World) : Clean w.heap.size w := fun b o h ho => absurd (Array.getElem?_eq_some_iff.1 ho).1 (by omega)
theorem Clean.alloc {n : Nat} {w : World} (h : Clean n w) (cs : Array Value) (t : TypeId) : Clean n (w.alloc (.cells cs t)) := by
  intro b o hb ho
  have e : (w.heap.push (.cells cs t))[b]? = some o := ho
  rw [Array.getElem?_push] at e
  split at e
  · cases e; exact ⟨cs, t, rfl⟩
  · exact h b o hb e
theorem Clean.setCell {n : Nat} {w : World} (h : Clean n w) (p : Addr) (v : Value) : Clean n (w.setCell p v) := by
  intro b o hb ho
  by_cases e : b = p.block
  · subst e
    unfold World.setCell at ho
    simp only [Array.getElem?_modify, if_true] at ho
    obtain ⟨o', h1, h2⟩ := Option.map_eq_some_iff.1 ho
    obtain ⟨cs, t, rfl⟩ := h _ o' hb h1
    exact ⟨_, _, h2.symm⟩
  · rw [Below.heap_setCell _ _ _ _ e] at ho
    exact h b o hb ho
theorem Clean.trans {n : Nat} {w w' : World} (h : Clean n w) (hb : Below w.heap.size w w') (h' : Clean w.heap.size w') : Clean n w' := by
  intro b o hn ho
  by_cases hlt : b < w.heap.size
  · rw [hb.block b hlt] at ho; exact h b o hn ho
  · exact h' b o (by omega) ho
theorem Clean.put5 {n : Nat} {w : World} (h : Clean n w) (nb o : Nat) (v0 v1 v2 v3 v4 : Value) : Clean n (put5 w nb o v0 v1 v2 v3 v4) := ((((h.setCell _ _).setCell _ _).setCell _ _).setCell _ _).setCell _ _
set_option maxHeartbeats 400000 in
theorem toDecC_any (m x : Int) (w : World) :
    Calls Try.prog 26 #[.agg #[.int .i64 m, .int .i64 x]] w fun e w' => e = .returned (.agg #[.int .i64 m, .int .i64 x]) ∧ Below w.heap.size w w' ∧ Clean w.heap.size w' := by
  go_enter Try.func26, Try.ntmps26
  go_wp2
  refine bodyPost_ret (v := .agg #[.int .i64 m, .int .i64 x]) (by simp [results, Try.results26, go_sem]) rfl ⟨rfl, (by (repeat' (first | assumption | exact Below.refl _ _ | refine Below.alloc ?_ ?_ _ | refine Below.setCell ?_ ?_ _ | refine Below.drew ?_ | refine below_drewN ?_ _)) <;> (first | omega | (simp <;> omega))), ?_⟩
  repeat' first | exact Clean.refl _ | refine Clean.alloc ?_ _ _ | refine Clean.setCell ?_ _ _
end Go.Proofs.Ytbbbmmemfndnlaa
/- Contracts over trees: the laws' own copy of a tree has every list at the head of its block. -/
namespace Go.Proofs.Ytbbbmmemfndnlaa
open Go.RowKit
attribute [local go_sem] cell_alloc_is frozen_alloc_is
/-- the lists below lie in such blocks only -/
def Fo.BlkZ (P : Nat → Prop) : Fo → Prop
  | .nil => True
  | .cons _ _ _ _ a _ kids next => (kids = .nil ∨ ∃ b' o', a = some ⟨b', o', none⟩ ∧ (P b' ∧ o' = 0)) ∧ kids.BlkZ P ∧ next.BlkZ P
theorem Fo.BlkZ.mono {P Q : Nat → Prop} (h : ∀ b, P b → Q b) : ∀ {F : Fo}, F.BlkZ P → F.BlkZ Q := by
  intro F
  induction F with
  | nil => exact fun _ => trivial
  | cons k t m e a c kids next ih1 ih2 =>
    rintro ⟨h0, h1, h2⟩
    refine ⟨?_, ih1 h1, ih2 h2⟩
    rcases h0 with h0 | ⟨b', o', e1, e2⟩
    · exact .inl h0
    · exact .inr ⟨b', o', e1, h _ e2.1, e2.2⟩
/-- in a world that holds the same in those blocks the list lies as it did -/
theorem Fo.from_agreeZ {P : Nat → Prop} {w w' : World} (h : ∀ b o v, P b → w.cell? ⟨b, o, none⟩ = some v → w'.cell? ⟨b, o, none⟩ = some v) : ∀ (F : Fo) (b o : Nat), P b → F.BlkZ P → F.From w b o → F.From w' b o := by
  intro F
  induction F with
  | nil => intro b o _ _ _; trivial
  | cons k t m e a c kids next ih1 ih2 =>
    rintro b o hb ⟨h0, hb1, hb2⟩ ⟨⟨h1, h2, h3, h4, h5⟩, hk, hc, hm, ht, hn⟩
    refine ⟨⟨h _ _ _ hb h1, h _ _ _ hb h2, h _ _ _ hb h3, h _ _ _ hb h4, h _ _ _ hb h5⟩, ?_, hc, hm, ht, ih2 _ _ hb hb2 hn⟩
    rcases hk with hk | ⟨b', o', e1, e2⟩
    · exact .inl hk
    · rcases h0 with h0 | ⟨b'', o'', e3, e4⟩
      · exact .inl h0
      · rw [e1] at e3
        have e5 : b' = b'' := by simpa using congrArg (Option.map Addr.block) e3
        subst e5
        exact .inr ⟨b', o', e1, ih1 _ _ e4.1 hb1 e2⟩
/-- from cell o of block nb on lies a tree like this one -/
def CopZ (P : Nat → Prop) (w : World) (nb o : Nat) (k : Int) (t : ByteArray) (m e : Int) (kids : Fo) : Prop :=
  ∃ (a' : Option Addr) (c' : Nat) (kids' : Fo), (w.cell? ⟨nb, o, none⟩ = some (.int .i64 k) ∧ w.cell? ⟨nb, o + 1, none⟩ = some (.string t) ∧ w.cell? ⟨nb, o + 2, none⟩ = some (.int .i64 m) ∧ w.cell? ⟨nb, o + 3, none⟩ = some (.int .i64 e) ∧ w.cell? ⟨nb, o + 4, none⟩ = some (.slice a' kids'.len c')) ∧
    (kids' = .nil ∨ ∃ b' o', a' = some ⟨b', o', none⟩ ∧ (P b' ∧ o' = 0) ∧ kids'.From w b' o') ∧ kids'.BlkZ P ∧ kids'.alike kids ∧ kids'.len ≤ c' ∧ c' ≤ maxLen ∧ t.size ≤ maxLen
theorem CopZ.agree {P : Nat → Prop} {w w' : World} {nb o : Nat} {k : Int} {t : ByteArray} {m e : Int} {kids : Fo} (h : CopZ P w nb o k t m e kids) (hP : ∀ b o v, P b → w.cell? ⟨b, o, none⟩ = some v → w'.cell? ⟨b, o, none⟩ = some v)
    (hnb : ∀ q v, q < 5 → w.cell? ⟨nb, o + q, none⟩ = some v → w'.cell? ⟨nb, o + q, none⟩ = some v) : CopZ P w' nb o k t m e kids := by
  obtain ⟨a', c', kids', ⟨h1, h2, h3, h4, h5⟩, hk, hr⟩ := h
  refine ⟨a', c', kids', ⟨hnb 0 _ (by omega) h1, hnb 1 _ (by omega) h2, hnb 2 _ (by omega) h3, hnb 3 _ (by omega) h4, hnb 4 _ (by omega) h5⟩, ?_, hr⟩
  rcases hk with hk | ⟨b', o', e1, e2, e3⟩
  · exact .inl hk
  · exact .inr ⟨b', o', e1, e2, Fo.from_agreeZ hP kids' b' o' e2.1 hr.1 e3⟩
/-- the first j of a list are copied -/
def PreZ (P : Nat → Prop) (w : World) (nb : Nat) : Fo → Nat → Nat → Prop
  | _, _, 0 => True
  | .nil, _, _ + 1 => True
  | .cons k t m e _ _ kids next, o, j + 1 => CopZ P w nb o k t m e kids ∧ PreZ P w nb next (o + 5) j
theorem PreZ.agree {P : Nat → Prop} {w w' : World} {nb : Nat} (hP : ∀ b o v, P b → w.cell? ⟨b, o, none⟩ = some v → w'.cell? ⟨b, o, none⟩ = some v) :
    ∀ (F : Fo) (o j : Nat), (∀ o' v, o' < o + 5 * j → w.cell? ⟨nb, o', none⟩ = some v → w'.cell? ⟨nb, o', none⟩ = some v) → PreZ P w nb F o j → PreZ P w' nb F o j := by
  intro F
  induction F with
  | nil => intro o j _ _; cases j <;> trivial
  | cons k t m e a c kids next _ ih =>
    intro o j hnb h
    cases j with
    | zero => trivial
    | succ j =>
      obtain ⟨h1, h2⟩ := h
      exact ⟨h1.agree hP (fun q v hq => hnb _ v (by omega)), ih _ _ (fun o' v ho => hnb o' v (by omega)) h2⟩
theorem PreZ.snoc {P : Nat → Prop} {w : World} {nb : Nat} : ∀ {F : Fo} {o j : Nat} {k : Int} {t : ByteArray} {m e : Int} {a : Option Addr} {c : Nat} {kids next : Fo}, F.drop j = .cons k t m e a c kids next → PreZ P w nb F o j → CopZ P w nb (o + 5 * j) k t m e kids → PreZ P w nb F o (j + 1) := by
  intro F
  induction F with
  | nil => intro o j; cases j <;> intro k t m e a c kids next h <;> cases h
  | cons k0 t0 m0 e0 a0 c0 kids0 next0 _ ih =>
    intro o j k t m e a c kids next h hp hc
    cases j with
    | zero =>
      cases h
      refine ⟨by simpa using hc, ?_⟩
      unfold PreZ; trivial
    | succ j =>
      obtain ⟨h1, h2⟩ := hp
      refine ⟨h1, ih h h2 ?_⟩
      rw [show o + 5 + 5 * j = o + 5 * (j + 1) by omega]; exact hc
/-- all are copied: there lies a list like it -/
theorem PreZ.done {P : Nat → Prop} {w : World} {nb : Nat} : ∀ (F : Fo) (o j : Nat), F.len ≤ j → PreZ P w nb F o j → ∃ F' : Fo, F'.alike F ∧ F'.BlkZ P ∧ F'.From w nb o := by
  intro F
  induction F with
  | nil => intro o j _ _; exact ⟨.nil, trivial, trivial, trivial⟩
  | cons k t m e a c kids next _ ih =>
    intro o j hj h
    have hj' : next.len + 1 ≤ j := hj
    obtain ⟨j, rfl⟩ : ∃ i, j = i + 1 := ⟨j - 1, by omega⟩
    obtain ⟨⟨a', c', kids', hcells, hk, hB, hA, hl, hm, ht⟩, h2⟩ := h
    obtain ⟨next', hA2, hB2, hF2⟩ := ih (o + 5) j (by omega) h2
    refine ⟨.cons k t m e a' c' kids' next', ⟨⟨rfl, rfl, rfl, rfl⟩, hA, hA2⟩, ⟨?_, hB, hB2⟩, hcells, ?_, hl, hm, ht, hF2⟩
    · rcases hk with hk | ⟨b', o', e1, e2, _⟩
      · exact .inl hk
      · exact .inr ⟨b', o', e1, e2⟩
    · rcases hk with hk | ⟨b', o', e1, _, e3⟩
      · exact .inl hk
      · exact .inr ⟨b', o', e1, e3⟩
set_option maxHeartbeats 1000000 in
theorem toNodeSZ_step (N : Nat) (H : ∀ (k : Int) (t : ByteArray) (m e : Int) (a : Option Addr) (c : Nat) (F : Fo) (w : World), F.size < N → F.size ≤ 2000000 → F.In w a → F.len ≤ c → c ≤ maxLen → t.size ≤ maxLen →
      Calls Try.prog 9 #[nodeV k t m e a F.len c] w fun r w' => (∃ (nb : Nat) (F' : Fo), r = .returned (nodeV k t m e (some ⟨nb, 0, none⟩) F'.len F'.len) ∧ w.heap.size ≤ nb ∧ F'.alike F ∧ F'.BlkZ (fun b => w.heap.size ≤ b) ∧ F'.From w' nb 0 ∧ Clean w.heap.size w') ∧ Below w.heap.size w w') :
    ∀ (a : Option Addr) (c : Nat) (F : Fo) (w : World), F.size ≤ N → F.size ≤ 2000000 → F.In w a → F.len ≤ c → c ≤ maxLen →
      Calls Try.prog 27 #[.slice a F.len c] w fun r w' => (∃ (nb : Nat) (F' : Fo), r = .returned (.slice (some ⟨nb, 0, none⟩) F'.len F'.len) ∧ w.heap.size ≤ nb ∧ F'.alike F ∧ F'.BlkZ (fun b => w.heap.size ≤ b) ∧ F'.From w' nb 0 ∧ Clean w.heap.size w') ∧ Below w.heap.size w w' := by
  intro a c F w hF hF2 hin hl hc
  have hll := F.len_le
  have hmk := make_nodes F.len (by omega)
  unfold maxLen at hc
  go_enter Try.func27, Try.ntmps27
  go_wp2_with fail
  go_loopw [4] (fun i wr => ∃ (j : Nat) (G : Fo), i = .int .i64 j ∧ F.drop j = G ∧ j + G.len = F.len ∧ G.size ≤ F.size ∧ (G = .nil ∨ ∃ b o', a = some ⟨b, o', none⟩ ∧ G.From w b (o' + j * 5)) ∧ Room wr w.heap.size F.len ∧ PreZ (fun b => w.heap.size < b) wr w.heap.size F 0 j ∧ w.heap.size < wr.heap.size ∧ Clean w.heap.size wr ∧ Below w.heap.size w wr) (fun i _ => F.len - (intOf i).toNat)
  case atStart =>
    refine ⟨0, F, rfl, by cases F <;> rfl, by omega, Nat.le_refl _, ?_, room_new w F.len, by unfold PreZ; trivial, by simp, (Clean.refl w).alloc _ _, (Below.refl _ _).alloc (Nat.le_refl _) _⟩
    rcases hin with h | ⟨b, o', e1, e2⟩
    · exact .inl h
    · exact .inr ⟨b, o', e1, by simpa using e2⟩
  case round =>
    obtain ⟨j, G, rfl, hd, hj, hs, hG, hR, hP, hsz, hcl, hb⟩ := hrel
    have HCl : Hid (Clean w.heap.size wr) := hcl
    clear hcl
    cases G with
    | nil =>
      have hj' : j = F.len := by simpa [Fo.len] using hj
      clear hj hs hG H hd
      have HP : Hid (PreZ (fun b => w.heap.size < b) wr w.heap.size F 0 j) := hP
      clear hP
      subst hj'
      go_wp2_with fail
      go_ret
      obtain ⟨F', h1, h2, h3⟩ := PreZ.done F 0 F.len (Nat.le_refl _) HP.out
      refine ⟨⟨w.heap.size, F', ?_, Nat.le_refl _, h1, h2.mono (fun b hb => Nat.le_of_lt hb), h3, HCl.out⟩, hb⟩
      rw [Fo.alike_len h1]; rfl
    | cons k' t' m' e' a' c' kids next =>
      rcases hG with hG | ⟨b, o', rfl, hfrom⟩
      · cases hG
      · obtain ⟨⟨h1, h2, h3, h4, h5⟩, hk, hc1, hc2, ht', hn⟩ := Fo.from_grow hb _ _ _ hfrom
        have hnw : next.From w b (o' + j * 5 + 5) := hfrom.2.2.2.2.2
        have hln : j + (next.len + 1) = F.len := hj
        have hlt : (j : Int) < (F.len : Int) := by omega
        have hjl : j < F.len := by omega
        have hss : kids.size + 1 + next.size ≤ F.size := hs
        have HD : Hid (F.drop j = .cons k' t' m' e' a' c' kids next) := hd
        have HP : Hid (PreZ (fun b => w.heap.size < b) wr w.heap.size F 0 j) := hP
        have HN : Hid (next.From w b (o' + j * 5 + 5)) := hnw
        clear hj hin hs hd hP hnw hn hfrom
        go_wp2_with fail
        refine (H k' t' m' e' a' c' kids wr (by omega) (by omega) hk hc1 hc2 ht').mono ?_
        rintro r w1 ⟨⟨nb, F1, rfl, hnb, hA, hB, hF1, hcl1⟩, hb1⟩
        have HC1 : Hid (Clean w.heap.size w1) := HCl.out.trans hb1 hcl1
        clear hcl1 HCl
        have hR1 := hR.grow hb1
        have hz1 := hb1.size
        have HP1 : Hid (PreZ (fun b => w.heap.size < b) w1 w.heap.size F 0 j) := PreZ.agree (fun b o v _ hv => (hb1.cell (p := ⟨b, o, none⟩) (World.block_lt_of_cell? wr _ hv)).trans hv) F 0 j (fun o v _ hv => (hb1.cell (p := ⟨_, o, none⟩) (World.block_lt_of_cell? wr _ hv)).trans hv) HP.out
        have hb2 := hb.trans (hb1.mono hb.size)
        obtain ⟨⟨v0, c0⟩, f0⟩ := hR1 (j * 5) (by omega)
        obtain ⟨⟨v1, c1⟩, f1⟩ := hR1 (j * 5 + 1) (by omega)
        obtain ⟨⟨v2, c2⟩, f2⟩ := hR1 (j * 5 + 2) (by omega)
        obtain ⟨⟨v3, c3⟩, f3⟩ := hR1 (j * 5 + 3) (by omega)
        obtain ⟨⟨v4, c4⟩, f4⟩ := hR1 (j * 5 + 4) (by omega)
        clear h1 h2 h3 h4 h5 hk hR hb hb1 HP H
        have HF : Hid (F1.alike kids ∧ F1.BlkZ (fun b => wr.heap.size ≤ b) ∧ F1.From w1 nb 0) := ⟨hA, hB, hF1⟩
        clear hA hB hF1
        go_wp2_with fail
        go_round
        case rel =>
          obtain ⟨hA, hB, hF1⟩ := HF.out
          have hl1 := Fo.alike_len hA
          have hP2 : PreZ (fun b => w.heap.size < b) (put5 w1 w.heap.size (j * 5) (.int .i64 k') (.string t') (.int .i64 m') (.int .i64 e') (.slice (some ⟨nb, 0, none⟩) F1.len F1.len)) w.heap.size F 0 j :=
            PreZ.agree (fun b o v hb hv => (put5_other (.inl (by omega))).trans hv) F 0 j (fun o v ho hv => (put5_other (.inr (.inl (by omega)))).trans hv) HP1.out
          have hC : CopZ (fun b => w.heap.size < b) (put5 w1 w.heap.size (j * 5) (.int .i64 k') (.string t') (.int .i64 m') (.int .i64 e') (.slice (some ⟨nb, 0, none⟩) F1.len F1.len)) w.heap.size (0 + 5 * j) k' t' m' e' kids := by
            rw [show 0 + 5 * j = j * 5 by omega]
            refine ⟨some ⟨nb, 0, none⟩, F1.len, F1, put5_cells (fun q hq => (hR1 (j * 5 + q) (by omega)).1), .inr ⟨nb, 0, rfl, ⟨by omega, rfl⟩, ?_⟩, hB.mono (fun b hb => by omega), hA, Nat.le_refl _, by omega, ht'⟩
            exact Fo.from_agreeZ (P := fun b => w.heap.size < b) (fun b o v hb hv => (put5_other (.inl (by omega))).trans hv) F1 nb 0 (by omega) (hB.mono (fun b hb => by omega)) hF1
          refine ⟨j + 1, next, by go_num, Fo.drop_next HD.out, by omega, by omega, .inr ⟨b, o', rfl, ?_⟩, hR1.put5 _ _ _ _ _ _, PreZ.snoc HD.out hP2 hC, ?_, HC1.out.put5 _ _ _ _ _ _ _, put5_below hb2 (Nat.le_refl _) _ _ _ _ _ _⟩
          · rw [show o' + (j + 1) * 5 = o' + j * 5 + 5 by omega]; exact HN.out
          · show w.heap.size < (put5 w1 w.heap.size (j * 5) _ _ _ _ _).heap.size
            rw [put5_size]; omega
        case measure => simp [intOf]; omega

set_option maxHeartbeats 1000000 in
theorem toNodeZ_step (N : Nat) (H : ∀ (a : Option Addr) (c : Nat) (F : Fo) (w : World), F.size ≤ N → F.size ≤ 2000000 → F.In w a → F.len ≤ c → c ≤ maxLen →
      Calls Try.prog 27 #[.slice a F.len c] w fun r w' => (∃ (nb : Nat) (F' : Fo), r = .returned (.slice (some ⟨nb, 0, none⟩) F'.len F'.len) ∧ w.heap.size ≤ nb ∧ F'.alike F ∧ F'.BlkZ (fun b => w.heap.size ≤ b) ∧ F'.From w' nb 0 ∧ Clean w.heap.size w') ∧ Below w.heap.size w w') :
    ∀ (k : Int) (t : ByteArray) (m e : Int) (a : Option Addr) (c : Nat) (F : Fo) (w : World), F.size ≤ N → F.size ≤ 2000000 → F.In w a → F.len ≤ c → c ≤ maxLen →
      Calls Try.prog 9 #[nodeV k t m e a F.len c] w fun r w' => (∃ (nb : Nat) (F' : Fo), r = .returned (nodeV k t m e (some ⟨nb, 0, none⟩) F'.len F'.len) ∧ w.heap.size ≤ nb ∧ F'.alike F ∧ F'.BlkZ (fun b => w.heap.size ≤ b) ∧ F'.From w' nb 0 ∧ Clean w.heap.size w') ∧ Below w.heap.size w w' := by
  intro k t m e a c F w hF hF2 hin hl hc
  obtain ⟨W0, hW0⟩ : ∃ W0, W0 = ((w.alloc (.cells #[.int .i64 k, .string t, .int .i64 m, .int .i64 e, .slice a F.len c] 26)).alloc (.cells #[.int .i64 0, .string ⟨#[]⟩, .int .i64 0, .int .i64 0, .slice none 0 0] 33)).alloc (.cells #[.int .i64 k, .string t, .int .i64 0, .int .i64 0, .slice none 0 0] 33) := ⟨_, rfl⟩
  have hB0 : Below w.heap.size w W0 := by subst hW0; exact (by (repeat' (first | assumption | exact Below.refl _ _ | refine Below.alloc ?_ ?_ _ | refine Below.setCell ?_ ?_ _ | refine Below.drew ?_ | refine below_drewN ?_ _)) <;> (first | omega | (simp <;> omega)))
  have HC0 : Hid (Clean w.heap.size W0) := by unfold Hid; subst hW0; exact (((Clean.refl w).alloc _ _).alloc _ _).alloc _ _
  have hsz : W0.heap.size = w.heap.size + 1 + 1 + 1 := by subst hW0; simp
  have A0 : Five W0 w.heap.size (.int .i64 k) (.string t) (.int .i64 m) (.int .i64 e) (.slice a F.len c) := by
    subst hW0
    exact ((Five.new w _ _ _ _ _ _).below ((Below.refl _ _).alloc (Nat.le_refl _) _) (by simp)).below ((Below.refl _ _).alloc (Nat.le_refl _) _) (by simp; omega)
  have B0 : Five W0 (w.heap.size + 1) (.int .i64 0) (.string ⟨#[]⟩) (.int .i64 0) (.int .i64 0) (.slice none 0 0) := by
    subst hW0
    have := Five.new (w.alloc (.cells #[.int .i64 k, .string t, .int .i64 m, .int .i64 e, .slice a F.len c] 26)) (.int .i64 0) (.string ⟨#[]⟩) (.int .i64 0) (.int .i64 0) (.slice none 0 0) 33
    rw [World.size_alloc] at this
    exact this.below ((Below.refl _ _).alloc (Nat.le_refl _) _) (by simp)
  have C0 : Five W0 (w.heap.size + 1 + 1) (.int .i64 k) (.string t) (.int .i64 0) (.int .i64 0) (.slice none 0 0) := by
    subst hW0
    have := Five.new ((w.alloc (.cells #[.int .i64 k, .string t, .int .i64 m, .int .i64 e, .slice a F.len c] 26)).alloc (.cells #[.int .i64 0, .string ⟨#[]⟩, .int .i64 0, .int .i64 0, .slice none 0 0] 33)) (.int .i64 k) (.string t) (.int .i64 0) (.int .i64 0) (.slice none 0 0) 33
    rw [World.size_alloc, World.size_alloc] at this
    exact this
  have l1 : w.heap.size < W0.heap.size := by omega
  have l2 : w.heap.size + 1 < W0.heap.size := by omega
  have l3 : w.heap.size + 1 + 1 < W0.heap.size := by omega
  have HSZ : Hid (W0.heap.size = w.heap.size + 1 + 1 + 1) := hsz
  clear hsz
  go_enter Try.func9, Try.ntmps9
  go_wp2_with fail
  rw [← hW0]
  clear hW0
  refine (toDecC_any _ _ _).mono ?_
  rintro r w1 ⟨rfl, hb1, hcl1⟩
  have HC1 : Hid (Clean w.heap.size w1) := HC0.out.trans hb1 hcl1
  clear HC0 hcl1
  have A1 := A0.below hb1 l1
  have B1 := B0.below hb1 l2
  have C1 := C0.below hb1 l3
  have hB1 := hB0.trans (hb1.mono (Nat.le_of_lt l1))
  have hz1 := hb1.size
  clear A0 B0 C0 hB0 hb1
  obtain ⟨⟨a0, a1, a2, a3, a4⟩, _, _, _, _, _⟩ := id A1
  obtain ⟨⟨c0, c1, c2, c3, c4⟩, g0, g1, g2, g3, g4⟩ := id C1
  go_wp2_with fail
  obtain ⟨W2, hW2⟩ : ∃ W2, W2 = (w1.setCell ⟨w.heap.size + 1 + 1, 2, none⟩ (.int .i64 m)).setCell ⟨w.heap.size + 1 + 1, 3, none⟩ (.int .i64 e) := ⟨_, rfl⟩
  have C2 : Five W2 (w.heap.size + 1 + 1) (.int .i64 k) (.string t) (.int .i64 m) (.int .i64 e) (.slice none 0 0) := by rw [hW2]; exact C1.setNum _ _
  have B2 : Five W2 (w.heap.size + 1) (.int .i64 0) (.string ⟨#[]⟩) (.int .i64 0) (.int .i64 0) (.slice none 0 0) := by rw [hW2]; exact (B1.setOther (by omega) _ _).setOther (by omega) _ _
  have hB2 : Below w.heap.size w W2 := by rw [hW2]; exact (hB1.setCell (p := ⟨w.heap.size + 1 + 1, 2, none⟩) (by show _ ≤ _ + 1 + 1; omega) _).setCell (p := ⟨w.heap.size + 1 + 1, 3, none⟩) (by show _ ≤ _ + 1 + 1; omega) _
  have HC2 : Hid (Clean w.heap.size W2) := by unfold Hid; rw [hW2]; exact (HC1.out.setCell _ _).setCell _ _
  rw [← hW2]
  clear HC1
  clear hW2 a0 a1 a2 a3 a4 c0 c1 c2 c3 c4 g0 g1 g2 g3 g4 A1 B1 C1 hB1
  refine (H a c F W2 hF hF2 (hin.grow hB2) hl hc).mono ?_
  rintro r w3 ⟨⟨nb, F', rfl, hnb, hA, hK, hFr, hcl3⟩, hb3⟩
  have HC3 : Hid (Clean w.heap.size w3) := HC2.out.trans hb3 hcl3
  clear HC2 hcl3
  have lC := C2.lt
  have C3 := C2.below hb3 lC
  have B3 := B2.below hb3 B2.lt
  have hB3 := hB2.trans (hb3.mono hB2.size)
  clear B2 C2 hB2 hb3 H hin
  have HF : Hid (F'.alike F ∧ F'.BlkZ (fun b => W2.heap.size ≤ b) ∧ F'.From w3 nb 0) := ⟨hA, hK, hFr⟩
  clear hA hK hFr
  obtain ⟨⟨b0, b1, b2, b3, b4⟩, e0, e1, e2, e3, e4⟩ := B3
  obtain ⟨⟨c0, c1, c2, c3, c4⟩, g0, g1, g2, g3, g4⟩ := C3
  go_wp2_with fail
  have hne : ∀ o : Nat, ((w3.setCell ⟨w.heap.size + 1 + 1, 4, none⟩ (.slice (some ⟨nb, 0, none⟩) F'.len F'.len)).cell? ⟨w.heap.size + 1, o, none⟩) = w3.cell? ⟨w.heap.size + 1, o, none⟩ := fun o => World.cell?_setCell_other _ _ _ _ (by simp)
  obtain ⟨p0, p1, p2, p3, p4⟩ := put5_cells (w := w3.setCell ⟨w.heap.size + 1 + 1, 4, none⟩ (.slice (some ⟨nb, 0, none⟩) F'.len F'.len)) (nb := w.heap.size + 1) (o := 0) (v0 := .int .i64 k) (v1 := .string t) (v2 := .int .i64 m) (v3 := .int .i64 e) (v4 := .slice (some ⟨nb, 0, none⟩) F'.len F'.len)
    (fun q hq => by
      rw [hne, Nat.zero_add]
      have : q = 0 ∨ q = 1 ∨ q = 2 ∨ q = 3 ∨ q = 4 := by omega
      rcases this with rfl | rfl | rfl | rfl | rfl
      · exact ⟨_, b0⟩
      · exact ⟨_, b1⟩
      · exact ⟨_, b2⟩
      · exact ⟨_, b3⟩
      · exact ⟨_, b4⟩)
  simp only [Nat.zero_add] at p0 p1 p2 p3 p4
  obtain ⟨W4, hW4⟩ : ∃ W4, W4 = put5 (w3.setCell ⟨w.heap.size + 1 + 1, 4, none⟩ (.slice (some ⟨nb, 0, none⟩) F'.len F'.len)) (w.heap.size + 1) 0 (.int .i64 k) (.string t) (.int .i64 m) (.int .i64 e) (.slice (some ⟨nb, 0, none⟩) F'.len F'.len) := ⟨_, rfl⟩
  have hB4 : Below w.heap.size w W4 := by rw [hW4]; exact put5_below (hB3.setCell (p := ⟨w.heap.size + 1 + 1, 4, none⟩) (by show _ ≤ _ + 1 + 1; omega) _) (by omega) _ _ _ _ _ _
  have HC4 : Hid (Clean w.heap.size W4) := by unfold Hid; rw [hW4]; exact (HC3.out.setCell _ _).put5 _ _ _ _ _ _ _
  have hF4 : F'.From W4 nb 0 := by
    obtain ⟨hA, hK, hFr⟩ := HF.out
    refine Fo.from_agreeZ (P := fun b => W2.heap.size ≤ b) (fun b o v hb hv => ?_) F' nb 0 hnb hK hFr
    rw [hW4, put5_other (.inl (by omega))]
    exact (World.cell?_setCell_other _ _ _ _ (fun e => by have : w.heap.size + 1 + 1 = b := by simpa using congrArg Addr.block e
                                                          omega)).trans hv
  rw [← hW4] at p0 p1 p2 p3 p4
  show bodyPost Try.prog Try.f9 _ Exit.ret _ (put5 (w3.setCell ⟨w.heap.size + 1 + 1, 4, none⟩ (.slice (some ⟨nb, 0, none⟩) F'.len F'.len)) (w.heap.size + 1) 0 (.int .i64 k) (.string t) (.int .i64 m) (.int .i64 e) (.slice (some ⟨nb, 0, none⟩) F'.len F'.len))
  rw [← hW4]
  obtain ⟨hA, hK, _⟩ := HF.out
  refine bodyPost_ret (v := nodeV k t m e (some ⟨nb, 0, none⟩) F'.len F'.len) (by simp [results, Try.results9, go_sem, p0, p1, p2, p3, p4]) rfl ⟨⟨nb, F', rfl, by omega, hA, hK.mono (fun b hb => by omega), hF4, HC4.out⟩, hB4⟩
theorem toNodeZ_all (N : Nat) : ∀ (k : Int) (t : ByteArray) (m e : Int) (a : Option Addr) (c : Nat) (F : Fo) (w : World), F.size < N → F.size ≤ 2000000 → F.In w a → F.len ≤ c → c ≤ maxLen → t.size ≤ maxLen →
      Calls Try.prog 9 #[nodeV k t m e a F.len c] w fun r w' => (∃ (nb : Nat) (F' : Fo), r = .returned (nodeV k t m e (some ⟨nb, 0, none⟩) F'.len F'.len) ∧ w.heap.size ≤ nb ∧ F'.alike F ∧ F'.BlkZ (fun b => w.heap.size ≤ b) ∧ F'.From w' nb 0 ∧ Clean w.heap.size w') ∧ Below w.heap.size w w' := by
  induction N with
  | zero => intro k t m e a c F w hF; omega
  | succ N ih => exact fun k t m e a c F w hF h2 h3 h4 h5 _ => toNodeZ_step N (toNodeSZ_step N ih) k t m e a c F w (by omega) h2 h3 h4 h5
end Go.Proofs.Ytbbbmmemfndnlaa
/- Values: a list of values as it lies in memory. Its first, what stands in the first, and the rest. -/
namespace Go.Proofs.Ytbbbmmemfndnlaa
open Go.RowKit
/-- texts one behind the other -/
def SFrom (w : World) : List ByteArray → Nat → Nat → Prop
  | [], _, _ => True
  | s :: t, b, o => w.cell? ⟨b, o, none⟩ = some (.string s) ∧ s.size ≤ maxLen ∧ SFrom w t b (o + 1)
/-- the texts of a slice -/
def SIn (w : World) (ss : List ByteArray) (a : Option Addr) : Prop := ss = [] ∨ ∃ b o, a = some ⟨b, o, none⟩ ∧ SFrom w ss b o
theorem SFrom.grow {w w' : World} (h : Below w.heap.size w w') : ∀ {ss : List ByteArray} {b o : Nat}, SFrom w ss b o → SFrom w' ss b o := by
  intro ss
  induction ss with
  | nil => intro b o _; trivial
  | cons s t ih =>
    rintro b o ⟨h1, h2, h3⟩
    exact ⟨(h.cell (p := ⟨b, o, none⟩) (World.block_lt_of_cell? w _ h1)).trans h1, h2, ih h3⟩
theorem SIn.grow {w w' : World} {ss : List ByteArray} {a : Option Addr} (hs : SIn w ss a) (h : Below w.heap.size w w') : SIn w' ss a := by
  rcases hs with rfl | ⟨b, o, rfl, hs⟩
  · exact .inl rfl
  · exact .inr ⟨b, o, rfl, hs.grow h⟩
theorem SFrom.agree {P : Nat → Prop} {w w' : World} (h : ∀ b o v, P b → w.cell? ⟨b, o, none⟩ = some v → w'.cell? ⟨b, o, none⟩ = some v) : ∀ {ss : List ByteArray} {b o : Nat}, P b → SFrom w ss b o → SFrom w' ss b o := by
  intro ss
  induction ss with
  | nil => intro b o _ _; trivial
  | cons s t ih =>
    rintro b o hb ⟨h1, h2, h3⟩
    exact ⟨h _ _ _ hb h1, h2, ih hb h3⟩
theorem SFrom.at {w : World} : ∀ {ss : List ByteArray} {b o i : Nat} {s : ByteArray}, SFrom w ss b o → ss[i]? = some s → w.cell? ⟨b, o + i, none⟩ = some (.string s) ∧ s.size ≤ maxLen := by
  intro ss
  induction ss with
  | nil => intro b o i s _ h; cases h
  | cons x t ih =>
    rintro b o i s ⟨h1, h2, h3⟩ h
    cases i with
    | zero => simp at h; subst h; exact ⟨h1, h2⟩
    | succ i =>
      have := ih h3 (show t[i]? = some s by simpa using h)
      rw [show o + 1 + i = o + (i + 1) by omega] at this
      exact this
theorem SFrom.of {w : World} : ∀ {ss : List ByteArray} {b o : Nat}, (∀ i s, ss[i]? = some s → w.cell? ⟨b, o + i, none⟩ = some (.string s) ∧ s.size ≤ maxLen) → SFrom w ss b o := by
  intro ss
  induction ss with
  | nil => intro b o _; trivial
  | cons x t ih =>
    intro b o h
    have h0 := h 0 x rfl
    refine ⟨h0.1, h0.2, ih fun i s hi => ?_⟩
    have := h (i + 1) s (by simpa using hi)
    rw [show o + (i + 1) = o + 1 + i by omega] at this
    exact this
/-- how much the laws' measure counts of texts -/
def sWt : List ByteArray → Nat
  | [] => 0
  | s :: t => s.size + 1 + sWt t
/-- a value but for what is in it: kind, number, text, names with where they lie -/
structure Hd where
  k : Int
  m : Int
  e : Int
  t : ByteArray
  na : Option Addr
  nc : Nat
  ns : List ByteArray
/-- the same but for where names lie -/
def Hd.same (h g : Hd) : Prop := (h.k = g.k ∧ h.m = g.m ∧ h.e = g.e ∧ h.t = g.t) ∧ h.ns = g.ns
theorem Hd.same_symm {h g : Hd} (x : h.same g) : g.same h := ⟨⟨x.1.1.symm, x.1.2.1.symm, x.1.2.2.1.symm, x.1.2.2.2.symm⟩, x.2.symm⟩
theorem Hd.same_trans {h g f : Hd} (x : h.same g) (y : g.same f) : h.same f := ⟨⟨x.1.1.trans y.1.1, x.1.2.1.trans y.1.2.1, x.1.2.2.1.trans y.1.2.2.1, x.1.2.2.2.trans y.1.2.2.2⟩, x.2.trans y.2⟩
/-- its texts are no longer than texts can be, its names lie there -/
def Hd.In (w : World) (h : Hd) : Prop := SIn w h.ns h.na ∧ (h.ns.length ≤ h.nc ∧ h.nc ≤ maxLen) ∧ h.t.size ≤ maxLen
theorem Hd.In.grow {w w' : World} {h : Hd} (x : h.In w) (hb : Below w.heap.size w w') : h.In w' := ⟨x.1.grow hb, x.2⟩
/-- a list of values: the first but for what is in it, where that lies, that list, the rest -/
inductive Vo
  | nil
  | cons (h : Hd) (at_ : Option Addr) (cap : Nat) (kids : Vo) (next : Vo)
def Vo.len : Vo → Nat
  | .nil => 0
  | .cons _ _ _ _ next => next.len + 1
def Vo.size : Vo → Nat
  | .nil => 0
  | .cons _ _ _ kids next => kids.size + 1 + next.size
def Vo.deep : Vo → Nat
  | .nil => 0
  | .cons _ _ _ kids next => max (kids.deep + 1) next.deep
/-- what the laws' own measure counts -/
def Vo.wt : Vo → Nat
  | .nil => 0
  | .cons h _ _ kids next => h.t.size + kids.wt + sWt h.ns + 1 + next.wt
theorem Vo.len_wt (F : Vo) : F.len ≤ F.wt := by
  induction F with
  | nil => exact Nat.le_refl _
  | cons h a c kids next _ ih => show next.len + 1 ≤ h.t.size + kids.wt + sWt h.ns + 1 + next.wt; omega
theorem Vo.size_wt (F : Vo) : F.size ≤ F.wt := by
  induction F with
  | nil => exact Nat.le_refl _
  | cons h a c kids next ih1 ih2 => show kids.size + 1 + next.size ≤ h.t.size + kids.wt + sWt h.ns + 1 + next.wt; omega
theorem Vo.len_le (F : Vo) : F.len ≤ F.size := by
  induction F with
  | nil => exact Nat.le_refl _
  | cons h a c kids next _ ih => show next.len + 1 ≤ kids.size + 1 + next.size; omega
/-- the six cells of a value -/
def Cells6 (w : World) (b o : Nat) (h : Hd) (v : Value) : Prop :=
  w.cell? ⟨b, o, none⟩ = some (.int .i64 h.k) ∧ w.cell? ⟨b, o + 1, none⟩ = some (.int .i64 h.m) ∧ w.cell? ⟨b, o + 2, none⟩ = some (.int .i64 h.e) ∧ w.cell? ⟨b, o + 3, none⟩ = some (.string h.t) ∧ w.cell? ⟨b, o + 4, none⟩ = some v ∧ w.cell? ⟨b, o + 5, none⟩ = some (.slice h.na h.ns.length h.nc)
theorem Cells6.lt {w : World} {b o : Nat} {h : Hd} {v : Value} (x : Cells6 w b o h v) : b < w.heap.size := World.block_lt_of_cell? w _ x.1
theorem Cells6.mono {w w' : World} {b o : Nat} {h : Hd} {v : Value} (x : Cells6 w b o h v) (f : ∀ o' u, w.cell? ⟨b, o', none⟩ = some u → w'.cell? ⟨b, o', none⟩ = some u) : Cells6 w' b o h v :=
  ⟨f _ _ x.1, f _ _ x.2.1, f _ _ x.2.2.1, f _ _ x.2.2.2.1, f _ _ x.2.2.2.2.1, f _ _ x.2.2.2.2.2⟩
theorem Cells6.grow {w w' : World} {b o : Nat} {h : Hd} {v : Value} (x : Cells6 w b o h v) (hb : Below w.heap.size w w') : Cells6 w' b o h v :=
  x.mono fun o' _ hu => (hb.cell (p := ⟨b, o', none⟩) (World.block_lt_of_cell? w _ hu)).trans hu
/-- the list lies from cell o of block b on -/
def Vo.From (w : World) : Vo → Nat → Nat → Prop
  | .nil, _, _ => True
  | .cons h a c kids next, b, o => Cells6 w b o h (.slice a kids.len c) ∧ (kids = .nil ∨ ∃ b' o', a = some ⟨b', o', none⟩ ∧ kids.From w b' o') ∧ (kids.len ≤ c ∧ c ≤ maxLen) ∧ h.In w ∧ next.From w b (o + 6)
/-- the list of a slice -/
def Vo.In (w : World) (F : Vo) (a : Option Addr) : Prop := F = .nil ∨ ∃ b o, a = some ⟨b, o, none⟩ ∧ F.From w b o
theorem Vo.from_grow {w w' : World} (hb : Below w.heap.size w w') : ∀ (F : Vo) (b o : Nat), F.From w b o → F.From w' b o := by
  intro F
  induction F with
  | nil => intro b o _; trivial
  | cons h a c kids next ih1 ih2 =>
    rintro b o ⟨h1, hk, hc, hh, hn⟩
    refine ⟨h1.grow hb, ?_, hc, hh.grow hb, ih2 _ _ hn⟩
    rcases hk with hk | ⟨b', o', e1, e2⟩
    · exact .inl hk
    · exact .inr ⟨b', o', e1, ih1 _ _ e2⟩
theorem Vo.In.grow {w w' : World} {F : Vo} {a : Option Addr} (hF : F.In w a) (h : Below w.heap.size w w') : F.In w' a := by
  rcases hF with rfl | ⟨b, o, rfl, hF⟩
  · exact .inl rfl
  · exact .inr ⟨b, o, rfl, Vo.from_grow h F b o hF⟩
theorem Vo.from_of_len {F : Vo} {w : World} {a : Option Addr} (hin : F.In w a) {i : Nat} (hi : i < F.len) : ∃ b o, a = some ⟨b, o, none⟩ ∧ F.From w b o := by
  rcases hin with rfl | h
  · exact absurd hi (Nat.not_lt_zero _)
  · exact h
/-- the same but for where they lie -/
def Vo.alike : Vo → Vo → Prop
  | .nil, .nil => True
  | .cons h _ _ kids next, .cons h' _ _ kids' next' => h.same h' ∧ kids.alike kids' ∧ next.alike next'
  | _, _ => False
theorem Vo.alike_nil {F : Vo} (h : F.alike .nil) : F = .nil := by cases F with
  | nil => rfl
  | cons => exact h.elim
theorem Vo.alike_cons {F : Vo} {h : Hd} {a : Option Addr} {c : Nat} {kids next : Vo} (x : F.alike (.cons h a c kids next)) : ∃ h' a' c' kids' next', F = .cons h' a' c' kids' next' ∧ h'.same h ∧ kids'.alike kids ∧ next'.alike next := by
  cases F with
  | nil => exact x.elim
  | cons h' a' c' kids' next' => exact ⟨h', a', c', kids', next', rfl, x.1, x.2.1, x.2.2⟩
theorem Vo.alike_len : ∀ {G F : Vo}, F.alike G → F.len = G.len := by
  intro G
  induction G with
  | nil => intro F h; rw [Vo.alike_nil h]
  | cons h a c kids next _ ih =>
    intro F x
    obtain ⟨h', a', c', kids', next', rfl, _, _, h2⟩ := Vo.alike_cons x
    show next'.len + 1 = next.len + 1
    rw [ih h2]
theorem Vo.alike_size : ∀ {G F : Vo}, F.alike G → F.size = G.size := by
  intro G
  induction G with
  | nil => intro F h; rw [Vo.alike_nil h]
  | cons h a c kids next ih1 ih2 =>
    intro F x
    obtain ⟨h', a', c', kids', next', rfl, _, h1, h2⟩ := Vo.alike_cons x
    show kids'.size + 1 + next'.size = kids.size + 1 + next.size
    rw [ih1 h1, ih2 h2]
theorem Vo.alike_sym : ∀ {G F : Vo}, F.alike G → G.alike F := by
  intro G
  induction G with
  | nil => intro F h; rw [Vo.alike_nil h]; trivial
  | cons h a c kids next ih1 ih2 =>
    intro F x
    obtain ⟨h', a', c', kids', next', rfl, h0, h1, h2⟩ := Vo.alike_cons x
    exact ⟨Hd.same_symm h0, ih1 h1, ih2 h2⟩
theorem Vo.alike_trans : ∀ {G F E : Vo}, F.alike G → G.alike E → F.alike E := by
  intro G
  induction G with
  | nil => intro F E h1 h2; rw [Vo.alike_nil h1]; exact h2
  | cons h a c kids next ih1 ih2 =>
    intro F E x y
    obtain ⟨h', a', c', kids', next', rfl, h0, h3, h4⟩ := Vo.alike_cons x
    cases E with
    | nil => exact y.elim
    | cons h2 a2 c2 kids2 next2 => exact ⟨Hd.same_trans h0 y.1, ih1 h3 y.2.1, ih2 h4 y.2.2⟩
/-- the lists and names below lie in such blocks only -/
def Hd.Blk (P : Nat → Prop) (h : Hd) : Prop := h.ns = [] ∨ ∃ b o, h.na = some ⟨b, o, none⟩ ∧ P b
def Vo.Blk (P : Nat → Prop) : Vo → Prop
  | .nil => True
  | .cons h a _ kids next => h.Blk P ∧ (kids = .nil ∨ ∃ b' o', a = some ⟨b', o', none⟩ ∧ P b') ∧ kids.Blk P ∧ next.Blk P
theorem Hd.Blk.mono {P Q : Nat → Prop} (h : ∀ b, P b → Q b) {x : Hd} (y : x.Blk P) : x.Blk Q := by
  rcases y with y | ⟨b, o, e1, e2⟩
  · exact .inl y
  · exact .inr ⟨b, o, e1, h _ e2⟩
theorem Vo.Blk.mono {P Q : Nat → Prop} (h : ∀ b, P b → Q b) : ∀ {F : Vo}, F.Blk P → F.Blk Q := by
  intro F
  induction F with
  | nil => exact fun _ => trivial
  | cons hd a c kids next ih1 ih2 =>
    rintro ⟨hh, h0, h1, h2⟩
    refine ⟨hh.mono h, ?_, ih1 h1, ih2 h2⟩
    rcases h0 with h0 | ⟨b', o', e1, e2⟩
    · exact .inl h0
    · exact .inr ⟨b', o', e1, h _ e2⟩
theorem Hd.In.agree {P : Nat → Prop} {w w' : World} (h : ∀ b o v, P b → w.cell? ⟨b, o, none⟩ = some v → w'.cell? ⟨b, o, none⟩ = some v) {x : Hd} (y : x.Blk P) (z : x.In w) : x.In w' := by
  refine ⟨?_, z.2⟩
  rcases z.1 with z | ⟨b, o, e1, e2⟩
  · exact .inl z
  · rcases y with y | ⟨b', o', e3, e4⟩
    · exact .inl y
    · rw [e1] at e3
      cases e3
      exact .inr ⟨b, o, e1, e2.agree h e4⟩
theorem Vo.from_agree {P : Nat → Prop} {w w' : World} (h : ∀ b o v, P b → w.cell? ⟨b, o, none⟩ = some v → w'.cell? ⟨b, o, none⟩ = some v) : ∀ (F : Vo) (b o : Nat), P b → F.Blk P → F.From w b o → F.From w' b o := by
  intro F
  induction F with
  | nil => intro b o _ _ _; trivial
  | cons hd a c kids next ih1 ih2 =>
    rintro b o hb ⟨hh, h0, hb1, hb2⟩ ⟨h1, hk, hc, hi, hn⟩
    refine ⟨h1.mono fun o' u hu => h _ _ _ hb hu, ?_, hc, hi.agree h hh, ih2 _ _ hb hb2 hn⟩
    rcases hk with hk | ⟨b', o', e1, e2⟩
    · exact .inl hk
    · rcases h0 with h0 | ⟨b'', o'', e3, e4⟩
      · exact .inl h0
      · rw [e1] at e3
        cases e3
        exact .inr ⟨b', o', e1, ih1 _ _ e4 hb1 e2⟩
/-- from cell o of block nb on lies a value like this one -/
def VCop (P : Nat → Prop) (w : World) (nb o : Nat) (h : Hd) (kids : Vo) : Prop :=
  ∃ (h' : Hd) (a' : Option Addr) (c' : Nat) (kids' : Vo), Cells6 w nb o h' (.slice a' kids'.len c') ∧ (kids' = .nil ∨ ∃ b' o', a' = some ⟨b', o', none⟩ ∧ P b' ∧ kids'.From w b' o') ∧ kids'.Blk P ∧ kids'.alike kids ∧ (kids'.len ≤ c' ∧ c' ≤ maxLen) ∧ h'.In w ∧ h'.Blk P ∧ h'.same h
theorem VCop.agree {P : Nat → Prop} {w w' : World} {nb o : Nat} {h : Hd} {kids : Vo} (x : VCop P w nb o h kids) (hP : ∀ b o v, P b → w.cell? ⟨b, o, none⟩ = some v → w'.cell? ⟨b, o, none⟩ = some v)
    (hnb : ∀ q v, q < 6 → w.cell? ⟨nb, o + q, none⟩ = some v → w'.cell? ⟨nb, o + q, none⟩ = some v) : VCop P w' nb o h kids := by
  obtain ⟨h', a', c', kids', ⟨h1, h2, h3, h4, h5, h6⟩, hk, hB, hA, hc, hi, hb, hs⟩ := x
  refine ⟨h', a', c', kids', ⟨hnb 0 _ (by omega) h1, hnb 1 _ (by omega) h2, hnb 2 _ (by omega) h3, hnb 3 _ (by omega) h4, hnb 4 _ (by omega) h5, hnb 5 _ (by omega) h6⟩, ?_, hB, hA, hc, hi.agree hP hb, hb, hs⟩
  rcases hk with hk | ⟨b', o', e1, e2, e3⟩
  · exact .inl hk
  · exact .inr ⟨b', o', e1, e2, Vo.from_agree hP kids' b' o' e2 hB e3⟩
/-- the first j of a list are copied -/
def VPre (P : Nat → Prop) (w : World) (nb : Nat) : Vo → Nat → Nat → Prop
  | _, _, 0 => True
  | .nil, _, _ + 1 => True
  | .cons h _ _ kids next, o, j + 1 => VCop P w nb o h kids ∧ VPre P w nb next (o + 6) j
theorem VPre.agree {P : Nat → Prop} {w w' : World} {nb : Nat} (hP : ∀ b o v, P b → w.cell? ⟨b, o, none⟩ = some v → w'.cell? ⟨b, o, none⟩ = some v) :
    ∀ (F : Vo) (o j : Nat), (∀ o' v, o' < o + 6 * j → w.cell? ⟨nb, o', none⟩ = some v → w'.cell? ⟨nb, o', none⟩ = some v) → VPre P w nb F o j → VPre P w' nb F o j := by
  intro F
  induction F with
  | nil => intro o j _ _; cases j <;> trivial
  | cons h a c kids next _ ih =>
    intro o j hnb x
    cases j with
    | zero => trivial
    | succ j =>
      obtain ⟨h1, h2⟩ := x
      exact ⟨h1.agree hP (fun q v hq => hnb _ v (by omega)), ih _ _ (fun o' v ho => hnb o' v (by omega)) h2⟩
def Vo.drop : Vo → Nat → Vo
  | F, 0 => F
  | .nil, _ + 1 => .nil
  | .cons _ _ _ _ next, j + 1 => next.drop j
theorem Vo.drop_next : ∀ {F : Vo} {j : Nat} {h : Hd} {a : Option Addr} {c : Nat} {kids next : Vo}, F.drop j = .cons h a c kids next → F.drop (j + 1) = next := by
  intro F
  induction F with
  | nil => intro j; cases j <;> intro h a c kids next x <;> cases x
  | cons h0 a0 c0 kids0 next0 _ ih =>
    intro j h a c kids next x
    cases j with
    | zero => cases x; show next0.drop 0 = next0; cases next0 <;> rfl
    | succ j => exact ih x
theorem VPre.snoc {P : Nat → Prop} {w : World} {nb : Nat} : ∀ {F : Vo} {o j : Nat} {h : Hd} {a : Option Addr} {c : Nat} {kids next : Vo}, F.drop j = .cons h a c kids next → VPre P w nb F o j → VCop P w nb (o + 6 * j) h kids → VPre P w nb F o (j + 1) := by
  intro F
  induction F with
  | nil => intro o j; cases j <;> intro h a c kids next x <;> cases x
  | cons h0 a0 c0 kids0 next0 _ ih =>
    intro o j h a c kids next x hp hc
    cases j with
    | zero =>
      cases x
      refine ⟨by simpa using hc, ?_⟩
      unfold VPre; trivial
    | succ j =>
      obtain ⟨h1, h2⟩ := hp
      refine ⟨h1, ih x h2 ?_⟩
      rw [show o + 6 + 6 * j = o + 6 * (j + 1) by omega]; exact hc
/-- all are copied: there lies a list like it -/
theorem VPre.done {P : Nat → Prop} {w : World} {nb : Nat} : ∀ (F : Vo) (o j : Nat), F.len ≤ j → VPre P w nb F o j → ∃ F' : Vo, F'.alike F ∧ F'.Blk P ∧ F'.From w nb o := by
  intro F
  induction F with
  | nil => intro o j _ _; exact ⟨.nil, trivial, trivial, trivial⟩
  | cons h a c kids next _ ih =>
    intro o j hj x
    have hj' : next.len + 1 ≤ j := hj
    obtain ⟨j, rfl⟩ : ∃ i, j = i + 1 := ⟨j - 1, by omega⟩
    obtain ⟨⟨h', a', c', kids', hcells, hk, hB, hA, hc, hi, hb, hs⟩, h2⟩ := x
    obtain ⟨next', hA2, hB2, hF2⟩ := ih (o + 6) j (by omega) h2
    refine ⟨.cons h' a' c' kids' next', ⟨hs, hA, hA2⟩, ⟨hb, ?_, hB, hB2⟩, hcells, ?_, hc, hi, hF2⟩
    · rcases hk with hk | ⟨b', o', e1, e2, _⟩
      · exact .inl hk
      · exact .inr ⟨b', o', e1, e2⟩
    · rcases hk with hk | ⟨b', o', e1, _, e3⟩
      · exact .inl hk
      · exact .inr ⟨b', o', e1, e3⟩
/-- what stands at a place of a list -/
def Vo.hdAt : Vo → Nat → Hd
  | .nil, _ => ⟨0, 0, 0, ⟨#[]⟩, none, 0, []⟩
  | .cons h _ _ _ _, 0 => h
  | .cons _ _ _ _ next, i + 1 => next.hdAt i
def Vo.addrAt : Vo → Nat → Option Addr
  | .nil, _ => none
  | .cons _ a _ _ _, 0 => a
  | .cons _ _ _ _ next, i + 1 => next.addrAt i
def Vo.capAt : Vo → Nat → Nat
  | .nil, _ => 0
  | .cons _ _ c _ _, 0 => c
  | .cons _ _ _ _ next, i + 1 => next.capAt i
def Vo.kidsAt : Vo → Nat → Vo
  | .nil, _ => .nil
  | .cons _ _ _ kids _, 0 => kids
  | .cons _ _ _ _ next, i + 1 => next.kidsAt i
theorem Vo.from_at : ∀ {F : Vo} {w : World} {b o i : Nat}, F.From w b o → i < F.len →
    Cells6 w b (o + i * 6) (F.hdAt i) (.slice (F.addrAt i) (F.kidsAt i).len (F.capAt i)) ∧ (F.kidsAt i).In w (F.addrAt i) ∧ ((F.kidsAt i).len ≤ F.capAt i ∧ F.capAt i ≤ maxLen) ∧ (F.hdAt i).In w := by
  intro F
  induction F with
  | nil => intro w b o i _ h; exact absurd h (Nat.not_lt_zero _)
  | cons h a c kids next _ ih =>
    rintro w b o i ⟨hc, hk, h1, h2, hn⟩ hi
    cases i with
    | zero => simp only [Nat.zero_mul, Nat.add_zero]; exact ⟨hc, hk, h1, h2⟩
    | succ i =>
      have := ih hn (show i < next.len from Nat.lt_of_succ_lt_succ hi)
      rw [show o + 6 + i * 6 = o + (i + 1) * 6 by omega] at this
      exact this
theorem Vo.size_at : ∀ {F : Vo} {i : Nat}, i < F.len → (F.kidsAt i).size < F.size := by
  intro F
  induction F with
  | nil => intro i h; exact absurd h (Nat.not_lt_zero _)
  | cons h a c kids next _ ih =>
    intro i hi
    cases i with
    | zero => show kids.size < kids.size + 1 + next.size; omega
    | succ i => have := ih (show i < next.len from Nat.lt_of_succ_lt_succ hi); show (next.kidsAt i).size < kids.size + 1 + next.size; omega
end Go.Proofs.Ytbbbmmemfndnlaa
/- Values: a list of values as cells one behind the other, and what lies below them. -/
namespace Go.Proofs.Ytbbbmmemfndnlaa
open Go.RowKit
/-- the six cells of a value -/
def six (h : Hd) (a : Option Addr) (n c : Nat) : List Value := [.int .i64 h.k, .int .i64 h.m, .int .i64 h.e, .string h.t, .slice a n c, .slice h.na h.ns.length h.nc]
theorem six_length (h : Hd) (a : Option Addr) (n c : Nat) : (six h a n c).length = 6 := rfl
def Vo.cells : Vo → List Value
  | .nil => []
  | .cons h a c kids next => six h a kids.len c ++ next.cells
/-- what is in the values of a list lies there -/
def Vo.Kin (w : World) : Vo → Prop
  | .nil => True
  | .cons h a c kids next => (kids = .nil ∨ ∃ b' o', a = some ⟨b', o', none⟩ ∧ kids.From w b' o') ∧ (kids.len ≤ c ∧ c ≤ maxLen) ∧ h.In w ∧ next.Kin w
theorem Vo.from_iff : ∀ {F : Vo} {w : World} {b o : Nat}, F.From w b o ↔ ((∀ i v, F.cells[i]? = some v → w.cell? ⟨b, o + i, none⟩ = some v) ∧ F.Kin w) := by
  intro F
  induction F with
  | nil => intro w b o; exact ⟨fun _ => ⟨fun i v h => (by simp [Vo.cells] at h), trivial⟩, fun _ => trivial⟩
  | cons h a c kids next _ ih =>
    intro w b o
    have hc : ∀ i, (Vo.cons h a c kids next).cells[i + 6]? = next.cells[i]? := fun i => by
      show (six h a kids.len c ++ next.cells)[i + 6]? = _
      rw [List.getElem?_append_right (by rw [six_length]; omega)]; simp [six_length]
    have hl : ∀ i, i < 6 → (Vo.cons h a c kids next).cells[i]? = (six h a kids.len c)[i]? := fun i hi => by
      show (six h a kids.len c ++ next.cells)[i]? = _
      rw [List.getElem?_append_left (by rw [six_length]; omega)]
    constructor
    · rintro ⟨⟨h0, h1, h2, h3, h4, h5⟩, hk, hcc, hh, hn⟩
      obtain ⟨n1, n2⟩ := ih.1 hn
      refine ⟨fun i v hv => ?_, hk, hcc, hh, n2⟩
      by_cases hi : i < 6
      · rw [hl i hi] at hv
        have : i = 0 ∨ i = 1 ∨ i = 2 ∨ i = 3 ∨ i = 4 ∨ i = 5 := by omega
        rcases this with rfl | rfl | rfl | rfl | rfl | rfl
        all_goals (simp [six] at hv; subst hv; assumption)
      · obtain ⟨i, rfl⟩ : ∃ j, i = j + 6 := ⟨i - 6, by omega⟩
        rw [hc] at hv
        have := n1 i v hv
        rw [show o + (i + 6) = o + 6 + i by omega]; exact this
    · rintro ⟨h1, hk, hcc, hh, hn⟩
      refine ⟨⟨h1 0 _ (hl 0 (by omega)), h1 1 _ (hl 1 (by omega)), h1 2 _ (hl 2 (by omega)), h1 3 _ (hl 3 (by omega)), h1 4 _ (hl 4 (by omega)), h1 5 _ (hl 5 (by omega))⟩, hk, hcc, hh, ih.2 ⟨fun i v hv => ?_, hn⟩⟩
      rw [← hc] at hv
      have := h1 _ v hv
      rw [show o + 6 + i = o + (i + 6) by omega]; exact this
end Go.Proofs.Ytbbbmmemfndnlaa
/- Values: cells that lie somewhere, put behind a slice that is owned; a value put into an object: mathematics. -/
namespace Go.Proofs.Ytbbbmmemfndnlaa
open Go.RowKit
/-- these cells lie where a slice begins -/
def Lies (w : World) (a : Option Addr) (L : List Value) : Prop := L = [] ∨ ∃ b o, a = some ⟨b, o, none⟩ ∧ ∀ i v, L[i]? = some v → w.cell? ⟨b, o + i, none⟩ = some v
theorem Lies.grow {w w' : World} {a : Option Addr} {L : List Value} (h : Lies w a L) (hb : Below w.heap.size w w') : Lies w' a L := by
  rcases h with h | ⟨b, o, e1, e2⟩
  · exact .inl h
  · exact .inr ⟨b, o, e1, fun i v hv => (hb.cell (p := ⟨b, o + i, none⟩) (World.block_lt_of_cell? w _ (e2 i v hv))).trans (e2 i v hv)⟩
theorem Vo.In.lies {F : Vo} {w : World} {a : Option Addr} (h : F.In w a) : Lies w a F.cells := by
  rcases h with rfl | ⟨b, o, e, h⟩
  · exact .inl rfl
  · exact .inr ⟨b, o, e, (Vo.from_iff.1 h).1⟩
theorem Lies.in {F : Vo} {w : World} {a : Option Addr} (h : Lies w a F.cells) (hk : F.Kin w) : F.In w a := by
  rcases h with h | ⟨b, o, e, h⟩
  · left
    cases F with
    | nil => rfl
    | cons h0 a0 c0 kids next => exact absurd h (by simp [Vo.cells, six])
  · exact .inr ⟨b, o, e, Vo.from_iff.2 ⟨h, hk⟩⟩
/-- texts as cells -/
def texts (ss : List ByteArray) : List Value := ss.map Value.string
theorem texts_length (ss : List ByteArray) : (texts ss).length = ss.length := List.length_map _
theorem texts_one {ss : List ByteArray} : ∀ u ∈ texts ss, u.oneCell' = true := by
  intro u hu
  obtain ⟨s, _, rfl⟩ := List.mem_map.1 hu
  rfl
theorem sfrom_iff : ∀ {ss : List ByteArray} {w : World} {b o : Nat}, SFrom w ss b o ↔ ((∀ i v, (texts ss)[i]? = some v → w.cell? ⟨b, o + i, none⟩ = some v) ∧ ∀ s ∈ ss, s.size ≤ maxLen) := by
  intro ss w b o
  constructor
  · intro h
    constructor
    · intro i v hv
      rw [texts, List.getElem?_map] at hv
      obtain ⟨s, hs, rfl⟩ := Option.map_eq_some_iff.1 hv
      exact (h.at hs).1
    · intro s hs
      obtain ⟨i, hi⟩ := List.getElem?_of_mem hs
      exact (h.at hi).2
  · rintro ⟨h1, h2⟩
    exact SFrom.of fun i s hi => ⟨h1 i _ (by rw [texts, List.getElem?_map, hi]; rfl), h2 s (List.mem_of_getElem? hi)⟩
theorem SIn.lies {ss : List ByteArray} {w : World} {a : Option Addr} (h : SIn w ss a) : Lies w a (texts ss) ∧ ∀ s ∈ ss, s.size ≤ maxLen := by
  rcases h with rfl | ⟨b, o, e, h⟩
  · exact ⟨.inl rfl, fun s hs => by cases hs⟩
  · exact ⟨.inr ⟨b, o, e, (sfrom_iff.1 h).1⟩, (sfrom_iff.1 h).2⟩
theorem Lies.sin {ss : List ByteArray} {w : World} {a : Option Addr} (h : Lies w a (texts ss)) (hs : ∀ s ∈ ss, s.size ≤ maxLen) : SIn w ss a := by
  rcases h with h | ⟨b, o, e, h⟩
  · left
    cases ss with
    | nil => rfl
    | cons s t => exact absurd h (by simp [texts])
  · exact .inr ⟨b, o, e, sfrom_iff.2 ⟨h, hs⟩⟩
theorem own_lies {W : World} {base size : Nat} {e : TypeId} {v : Value} {n : Nat} {xs : List Value} (hown : W.ownsRow base e size v n xs) :
    ∃ a c, v = .slice a n c ∧ Lies W a xs ∧ (n ≤ c ∧ c ≤ maxLen) ∧ (n = 0 ∨ ∃ b, a = some ⟨b, 0, none⟩ ∧ v.ownBlock = some b ∧ base ≤ b) := by
  have hl := hown.1
  rcases hown.2 with ⟨rfl, h0⟩ | ⟨g, cap, cur, rfl, h1, h2, h3, h4, _⟩
  · subst h0
    exact ⟨none, 0, rfl, .inl (List.eq_nil_of_length_eq_zero (by rw [hl]; omega)), ⟨Nat.le_refl _, by unfold maxLen; omega⟩, .inl rfl⟩
  · refine ⟨some ⟨g, 0, none⟩, cap, rfl, .inr ⟨g, 0, rfl, fun i u hi => ?_⟩, ⟨h3, h4⟩, .inr ⟨g, rfl, rfl, h1⟩⟩
    have hl2 : i < n * size := by rw [← hl]; exact (List.getElem?_eq_some_iff.1 hi).1
    rw [Nat.zero_add, hown.cellAt i hl2]; exact hi
/-- what is appended lies where a slice begins -/
def Src (w : World) (a : Option Addr) (m : Nat) (ys : List Value) : Prop := m = 0 ∨ ∃ ad, a = some ad ∧ ∀ j u, ys[j]? = some u → w.cell? (ad.add j) = some u
theorem addr_add (b o n : Nat) : (⟨b, o, none⟩ : Addr).add n = ⟨b, o + n, none⟩ := by
  unfold Addr.add
  split
  · next h => subst h; rfl
  · rfl
theorem Lies.nil_of {w : World} {a : Option Addr} {L : List Value} (h : Lies w a L) {sz n : Nat} (hl : L.length = n * sz) (hz : 0 < sz) : n = 0 ∨ ∃ b o, a = some ⟨b, o, none⟩ ∧ ∀ i v, L[i]? = some v → w.cell? ⟨b, o + i, none⟩ = some v := by
  rcases h with h | h
  · left
    subst h
    have hz2 : n * sz = 0 := by simpa using hl.symm
    rcases Nat.mul_eq_zero.1 hz2 with h1 | h1 <;> omega
  · exact .inr h
theorem Lies.src {w : World} {a : Option Addr} {L : List Value} (h : Lies w a L) {sz n : Nat} (hl : L.length = n * sz) (hz : 0 < sz) : Src w a n L := by
  rcases h.nil_of hl hz with h0 | ⟨b, o, rfl, h2⟩
  · exact .inl h0
  · exact .inr ⟨_, rfl, fun j u hj => by rw [addr_add]; exact h2 j u hj⟩
theorem Lies.take0 {w : World} {a : Option Addr} {L : List Value} (h : Lies w a L) {sz n : Nat} (hl : L.length = n * sz) (hz : 0 < sz) (k : Nat) (hk : k ≤ n) : Src w a k (L.take (k * sz)) := by
  rcases h.nil_of hl hz with h0 | ⟨b, o, rfl, h2⟩
  · exact .inl (by omega)
  · refine .inr ⟨⟨b, o, none⟩, rfl, fun j u hj => ?_⟩
    rw [addr_add]
    refine h2 j u ?_
    rw [List.getElem?_take] at hj
    split at hj
    · exact hj
    · cases hj
theorem Lies.drop {w : World} {a : Option Addr} {L : List Value} (h : Lies w a L) {sz n : Nat} (hl : L.length = n * sz) (hz : 0 < sz) (k c : Nat) (hn : n ≤ c) : Src w (if c = k then a else a.map (·.add (k * sz))) (n - k) (L.drop (k * sz)) := by
  rcases h.nil_of hl hz with h0 | ⟨b, o, rfl, h2⟩
  · exact .inl (by omega)
  · by_cases hc : c = k
    · exact .inl (by omega)
    · refine .inr ⟨⟨b, o + k * sz, none⟩, ?_, fun j u hj => ?_⟩
      · rw [if_neg hc, Option.map_some, addr_add]
      · rw [addr_add, Nat.add_assoc]
        exact h2 _ u (by rw [List.getElem?_drop] at hj; exact hj)
section
variable {P : Program}
theorem run_append_lie (w : World) (base : Nat) (t ty e : TypeId) (i : TypeInfo) (z : Value) (size bytes : Nat) (ht : P.underlying t = some (.slice e)) (hi : P.info? e = some i) (hz : i.zero = some z)
    (hsize : i.size = size) (hby : i.bytes = bytes) (hzs : z.cells.size = size) (hsz : 0 < size)
    (v : Value) (n : Nat) (xs : List Value) (hown : w.ownsRow base e size v n xs)
    (a : Option Addr) (m c : Nat) (news : List Value) (hl : news.length = m * size) (hnews : Src w a m news) (h1 : ∀ u ∈ news, u.oneCell' = true)
    (h63 : n + m ≤ maxLen) (hbytes : (n + m) * bytes ≤ 140737488355328) (hbase : base ≤ w.heap.size) :
    ∃ v' w', (Builtin.append_ #[t, t] ty #[v, .slice a m c]).run P w = .ok v' w' ∧ w'.ownsRow base e size v' (n + m) (xs ++ news) ∧ w.grownBy w' v.ownBlock ∧ (v'.ownBlock = v.ownBlock ∨ v'.ownBlock = some w.heap.size) := by
  cases a with
  | none =>
    have hm : m = 0 := by
      rcases hnews with h | ⟨ad, h, _⟩
      · exact h
      · cases h
    subst hm
    have hy : news = [] := List.eq_nil_of_length_eq_zero (by rw [hl, Nat.zero_mul])
    subst hy
    refine ⟨v, w, ?_, by simpa using hown, ⟨rfl, rfl, rfl, Nat.le_refl _, fun _ _ _ => rfl⟩, .inl rfl⟩
    rcases hown.2 with ⟨rfl, rfl⟩ | ⟨g, cap, cur, rfl, _, _, hnc, _⟩
    · simp [Builtin.append_, run_underlying ht, sizeOf, typeInfo, hi, Builtin.lenOf, Builtin.firstCells]
    · simp [Builtin.append_, run_underlying ht, sizeOf, typeInfo, hi, Builtin.lenOf, Builtin.firstCells, hnc, storeCells]
  | some ad =>
    obtain ⟨v', w', hr, h2, h3, _, h5⟩ := run_append_own_at (P := P) w base t ty e i z size bytes ht hi hz hsize hby hzs hsz v n xs hown ad m c news hl (fun j u hj => by
      rcases hnews with h | ⟨ad', h, h2⟩
      · subst h
        have : news = [] := List.eq_nil_of_length_eq_zero (by rw [hl, Nat.zero_mul])
        subst this
        cases hj
      · cases h
        exact h2 j u hj) h1 h63 hbytes hbase
    exact ⟨v', w', hr, h2, h3, h5⟩
theorem wp_append_lie {o : Oper} {a : Act} {K : Act → World → Prop} {Q : Exit → Act → World → Prop} (w : World) (s x : Operand) (t : TypeId)
    (ho : o.op = .call { callee := .builtin .append, args := #[s, x], argTypes := #[t, t] })
    (base : Nat) (e : TypeId) (i : TypeInfo) (z : Value) (size bytes : Nat) (ht : P.underlying t = some (.slice e)) (hi : P.info? e = some i) (hz : i.zero = some z)
    (hsize : i.size = size) (hby : i.bytes = bytes) (hzs : z.cells.size = size) (hsz : 0 < size)
    (v : Value) (n : Nat) (xs : List Value) (hs : a.eval s = v) (hown : w.ownsRow base e size v n xs) (ad : Option Addr) (m c : Nat) (news : List Value) (hx : a.eval x = .slice ad m c)
    (hl : news.length = m * size) (hnews : Src w ad m news) (h1 : ∀ u ∈ news, u.oneCell' = true) (h63 : n + m ≤ maxLen) (hbytes : (n + m) * bytes ≤ 140737488355328) (hbase : base ≤ w.heap.size)
    (h : ∀ v' w', w'.ownsRow base e size v' (n + m) (xs ++ news) → w.grownBy w' v.ownBlock → (v'.ownBlock = v.ownBlock ∨ v'.ownBlock = some w.heap.size) → K (a.put o.dst v') w') : o.wp P a w K Q := by
  obtain ⟨v', w', hr, h2, h3, h4⟩ := run_append_lie (P := P) w base t o.type e i z size bytes ht hi hz hsize hby hzs hsz v n xs hown ad m c news hl hnews h1 h63 hbytes hbase
  unfold Oper.wp execOp
  simp only [ho, resolve, invoke, builtin, Sem.run_bind, Sem.run_pure, Result.andThen_ok, List.map_toArray, List.map_cons, List.map_nil, hs, hx, hr]
  exact h v' w' h2 h3 h4
end
theorem below_grown {B : Nat} {w W1 W2 : World} {e : TypeId} {size : Nat} {v : Value} {n : Nat} {xs : List Value} (hB : Below B w W1) (hown : W1.ownsRow B e size v n xs) (hg : W1.grownBy W2 v.ownBlock) (hz : B ≤ W1.heap.size) : Below B w W2 :=
  hB.grown hg hz (fun k hk => (hown.lt k hk).1)
/-- where a name goes -/
def plc (s : ByteArray) : List ByteArray → Nat
  | [] => 0
  | x :: t => if Op.bytesLess x.toList s.toList then plc s t + 1 else 0
theorem plc_le (s : ByteArray) (ss : List ByteArray) : plc s ss ≤ ss.length := by
  induction ss with
  | nil => exact Nat.le_refl _
  | cons x t ih => unfold plc; split <;> simp <;> omega
/-- a name put among others -/
def insN (s : ByteArray) (ss : List ByteArray) : List ByteArray := ss.take (plc s ss) ++ s :: ss.drop (plc s ss)
def Vo.take : Vo → Nat → Vo
  | _, 0 => .nil
  | .nil, _ + 1 => .nil
  | .cons h a c kids next, k + 1 => .cons h a c kids (next.take k)
end Go.Proofs.Ytbbbmmemfndnlaa
/- A block's cells, that may be written, as a list of values. -/
namespace Go.Proofs.Ytbbbmmemfndnlaa
open Go.RowKit
attribute [local go_sem] cell_alloc_is frozen_alloc_is
/-- block b has these cells at its beginning, and they may be written -/
def Row (w : World) (b : Nat) (vs : List Value) : Prop := ∀ i v, vs[i]? = some v → w.cell? ⟨b, i, none⟩ = some v ∧ w.frozen? ⟨b, i, none⟩ = false
theorem Row.new (w : World) (vs : List Value) (T : TypeId) : Row (w.alloc (.cells vs.toArray T)) w.heap.size vs := by
  intro i v hi
  refine ⟨?_, by simp⟩
  rw [World.cell?_alloc_new]
  simpa using hi
theorem Row.lt {w : World} {b : Nat} {v : Value} {vs : List Value} (h : Row w b (v :: vs)) : b < w.heap.size := World.block_lt_of_cell? w _ (h 0 v rfl).1
theorem Row.below {B : Nat} {w w' : World} {b : Nat} {vs : List Value} (h : Row w b vs) (hb : Below B w w') (hB : b < B) : Row w' b vs := fun i v hi =>
  ⟨(hb.cell (p := ⟨b, i, none⟩) hB).trans (h i v hi).1, (hb.frozen (p := ⟨b, i, none⟩) hB).trans (h i v hi).2⟩
theorem Row.setOther {w : World} {b : Nat} {vs : List Value} (h : Row w b vs) {j : Nat} (hj : ¬ b = j) (o : Nat) (u : Value) : Row (w.setCell ⟨j, o, none⟩ u) b vs := fun i v hi =>
  ⟨(World.cell?_setCell_other _ _ _ _ (fun e => hj (by simpa using congrArg Addr.block e.symm))).trans (h i v hi).1, by simpa using (h i v hi).2⟩
theorem Row.set {w : World} {b : Nat} {vs : List Value} (h : Row w b vs) {i : Nat} (hi : i < vs.length) (u : Value) : Row (w.setCell ⟨b, i, none⟩ u) b (vs.set i u) := by
  intro j v hj
  rw [List.getElem?_set] at hj
  by_cases e : i = j
  · subst e
    rw [if_pos rfl, if_pos hi] at hj
    cases hj
    have h0 := h i (vs[i]) (List.getElem?_eq_getElem hi)
    exact ⟨set_near ⟨_, h0.1⟩, by simpa using h0.2⟩
  · rw [if_neg e] at hj
    have h0 := h j v hj
    exact ⟨(set_far e).trans h0.1, by simpa using h0.2⟩
/-- block nb has so many cells, and they may be written -/
def RoomN (w : World) (nb n : Nat) : Prop := ∀ o, o < n → (∃ v, w.cell? ⟨nb, o, none⟩ = some v) ∧ w.frozen? ⟨nb, o, none⟩ = false
theorem RoomN.grow {w w' : World} {nb n : Nat} (h : RoomN w nb n) (hb : Below w.heap.size w w') : RoomN w' nb n := by
  intro o ho
  obtain ⟨⟨v, h1⟩, h2⟩ := h o ho
  have hl := World.block_lt_of_cell? w _ h1
  exact ⟨⟨v, (hb.cell (p := ⟨nb, o, none⟩) hl).trans h1⟩, (hb.frozen (p := ⟨nb, o, none⟩) hl).trans h2⟩
theorem RoomN.set {w : World} {nb n : Nat} (h : RoomN w nb n) (b o : Nat) (v : Value) : RoomN (w.setCell ⟨b, o, none⟩ v) nb n := by
  intro o' ho
  obtain ⟨h1, h2⟩ := h o' ho
  refine ⟨?_, by simpa using h2⟩
  obtain ⟨u, hu⟩ := h1
  exact cell?_setCell_some hu
end Go.Proofs.Ytbbbmmemfndnlaa
