/- My own texts, joined: Fo FoC Dm DecA DecB DecX FoD FoG Va Ua Uc Rw Vb Vd Mp Kp Qm. -/
import Derived.Test.YtbbbmmemfndnlaaProg
import Derived.WalkKit
import Derived.Below
import Derived.Lib.SmallJoins
import Derived.Test.YtbbbmmemfndnlaaRows
import Derived.WalkSpells
import Derived.WalkLawsBesides
import Derived.Laws.MakeOwn
import Derived.Deep.AppendLies
import Derived.Laws.OwnMore
import Derived.Maps.AppendAt
import Derived.Laws.Slices
import Derived.Deep.RegionHeld3
import Derived.WideMake
import Derived.Maps.Own
import Derived.RangeFuncRecord
import Derived.LaidEql
import Derived.Laws.StructEq
import Derived.WideKeyRuns
/- Trees: a list of trees as it lies in memory. Its first, what stands below the first, and the rest. -/
namespace Go.Proofs.Ytbbbmmemfndnlaa
open Go.RowKit
/-- a list of trees: kind, text, number, where its own list lies (with length and capacity), that list, the rest -/
inductive Fo
  | nil
  | cons (kind : Int) (text : ByteArray) (man exp : Int) (at_ : Option Addr) (cap : Nat) (kids : Fo) (next : Fo)
def Fo.len : Fo → Nat
  | .nil => 0
  | .cons _ _ _ _ _ _ _ next => next.len + 1
def Fo.size : Fo → Nat
  | .nil => 0
  | .cons _ _ _ _ _ _ kids next => kids.size + 1 + next.size
def Fo.deep : Fo → Nat
  | .nil => 0
  | .cons _ _ _ _ _ _ kids next => max (kids.deep + 1) next.deep
/-- what the laws' own measure counts -/
def Fo.wt : Fo → Nat
  | .nil => 0
  | .cons _ t _ _ _ _ kids next => t.size + kids.wt + 1 + next.wt
theorem Fo.len_wt (F : Fo) : F.len ≤ F.wt := by
  induction F with
  | nil => exact Nat.le_refl _
  | cons k t m e a c kids next _ ih => show next.len + 1 ≤ t.size + kids.wt + 1 + next.wt; omega
theorem Fo.size_wt (F : Fo) : F.size ≤ F.wt := by
  induction F with
  | nil => exact Nat.le_refl _
  | cons k t m e a c kids next ih1 ih2 => show kids.size + 1 + next.size ≤ t.size + kids.wt + 1 + next.wt; omega
/-- what is left, or -1 -/
def leftOf (need l : Nat) : Int := if need ≤ l then ((l - need : Nat) : Int) else -1
theorem Fo.len_le (F : Fo) : F.len ≤ F.size := by
  induction F with
  | nil => exact Nat.le_refl _
  | cons k t m e a c kids next _ ih => show next.len + 1 ≤ kids.size + 1 + next.size; omega
theorem Fo.deep_le (F : Fo) : F.deep ≤ F.size := by
  induction F with
  | nil => exact Nat.le_refl _
  | cons k t m e a c kids next ih1 ih2 => show max (kids.deep + 1) next.deep ≤ kids.size + 1 + next.size; omega
/-- the list lies from cell o of block b on -/
def Fo.From (w : World) : Fo → Nat → Nat → Prop
  | .nil, _, _ => True
  | .cons k t m e a c kids next, b, o =>
    (w.cell? ⟨b, o, none⟩ = some (.int .i64 k) ∧ w.cell? ⟨b, o + 1, none⟩ = some (.string t) ∧ w.cell? ⟨b, o + 2, none⟩ = some (.int .i64 m) ∧ w.cell? ⟨b, o + 3, none⟩ = some (.int .i64 e) ∧ w.cell? ⟨b, o + 4, none⟩ = some (.slice a kids.len c)) ∧
    (kids = .nil ∨ ∃ b' o', a = some ⟨b', o', none⟩ ∧ kids.From w b' o') ∧ kids.len ≤ c ∧ c ≤ maxLen ∧ t.size ≤ maxLen ∧ next.From w b (o + 5)
/-- the list of a slice -/
def Fo.In (w : World) (F : Fo) (a : Option Addr) : Prop := F = .nil ∨ ∃ b o, a = some ⟨b, o, none⟩ ∧ F.From w b o
theorem Fo.from_below {B : Nat} {w w' : World} (h : Below B w w') : ∀ (F : Fo) (b o : Nat), F.From w b o → (∀ b' o' v, w.cell? ⟨b', o', none⟩ = some v → b' < B) → F.From w' b o := by
  intro F
  induction F with
  | nil => intro b o _ _; trivial
  | cons k t m e a c kids next ih1 ih2 =>
    rintro b o ⟨⟨h1, h2, h3, h4, h5⟩, hk, hc, hm, ht, hn⟩ hlt
    have hb : b < B := hlt _ _ _ h1
    refine ⟨⟨(h.cell (p := ⟨b, o, none⟩) hb).trans h1, (h.cell (p := ⟨b, o + 1, none⟩) hb).trans h2, (h.cell (p := ⟨b, o + 2, none⟩) hb).trans h3, (h.cell (p := ⟨b, o + 3, none⟩) hb).trans h4, (h.cell (p := ⟨b, o + 4, none⟩) hb).trans h5⟩, ?_, hc, hm, ht, ih2 _ _ hn hlt⟩
    rcases hk with hk | ⟨b', o', e1, e2⟩
    · exact .inl hk
    · exact .inr ⟨b', o', e1, ih1 _ _ e2 hlt⟩
theorem Fo.from_grow {w w' : World} (h : Below w.heap.size w w') (F : Fo) (b o : Nat) (hF : F.From w b o) : F.From w' b o :=
  Fo.from_below h F b o hF fun _ _ _ hc => World.block_lt_of_cell? w _ hc
theorem Fo.In.grow {w w' : World} {F : Fo} {a : Option Addr} (hF : F.In w a) (h : Below w.heap.size w w') : F.In w' a := by
  rcases hF with rfl | ⟨b, o, rfl, hF⟩
  · exact .inl rfl
  · exact .inr ⟨b, o, rfl, Fo.from_grow h F b o hF⟩
/-- a tree's value -/
abbrev nodeV (k : Int) (t : ByteArray) (m e : Int) (a : Option Addr) (n c : Nat) : Value := .agg #[.int .i64 k, .string t, .int .i64 m, .int .i64 e, .slice a n c]

end Go.Proofs.Ytbbbmmemfndnlaa
/- Trees: two lists of trees that are alike; a list that is being copied, element by element, into one new block. -/
namespace Go.Proofs.Ytbbbmmemfndnlaa
open Go.RowKit
/-- the same but for where they lie -/
def Fo.alike : Fo → Fo → Prop
  | .nil, .nil => True
  | .cons k t m e _ _ kids next, .cons k' t' m' e' _ _ kids' next' => (k = k' ∧ t = t' ∧ m = m' ∧ e = e') ∧ kids.alike kids' ∧ next.alike next'
  | _, _ => False
theorem Fo.alike_nil {F : Fo} (h : F.alike .nil) : F = .nil := by cases F with
  | nil => rfl
  | cons => exact h.elim
theorem Fo.alike_cons {F : Fo} {k : Int} {t : ByteArray} {m e : Int} {a : Option Addr} {c : Nat} {kids next : Fo} (h : F.alike (.cons k t m e a c kids next)) : ∃ a' c' kids' next', F = .cons k t m e a' c' kids' next' ∧ kids'.alike kids ∧ next'.alike next := by
  cases F with
  | nil => exact h.elim
  | cons k' t' m' e' a' c' kids' next' =>
    obtain ⟨⟨rfl, rfl, rfl, rfl⟩, h1, h2⟩ := h
    exact ⟨a', c', kids', next', rfl, h1, h2⟩
theorem Fo.alike_len : ∀ {G F : Fo}, F.alike G → F.len = G.len := by
  intro G
  induction G with
  | nil => intro F h; rw [Fo.alike_nil h]
  | cons k t m e a c kids next _ ih =>
    intro F h
    obtain ⟨a', c', kids', next', rfl, _, h2⟩ := Fo.alike_cons h
    show next'.len + 1 = next.len + 1
    rw [ih h2]
theorem Fo.alike_size : ∀ {G F : Fo}, F.alike G → F.size = G.size := by
  intro G
  induction G with
  | nil => intro F h; rw [Fo.alike_nil h]
  | cons k t m e a c kids next ih1 ih2 =>
    intro F h
    obtain ⟨a', c', kids', next', rfl, h1, h2⟩ := Fo.alike_cons h
    show kids'.size + 1 + next'.size = kids.size + 1 + next.size
    rw [ih1 h1, ih2 h2]
theorem Fo.alike_deep : ∀ {G F : Fo}, F.alike G → F.deep = G.deep := by
  intro G
  induction G with
  | nil => intro F h; rw [Fo.alike_nil h]
  | cons k t m e a c kids next ih1 ih2 =>
    intro F h
    obtain ⟨a', c', kids', next', rfl, h1, h2⟩ := Fo.alike_cons h
    show max (kids'.deep + 1) next'.deep = max (kids.deep + 1) next.deep
    rw [ih1 h1, ih2 h2]
/-- the lists below lie in such blocks only -/
def Fo.Blk (P : Nat → Prop) : Fo → Prop
  | .nil => True
  | .cons _ _ _ _ a _ kids next => (kids = .nil ∨ ∃ b' o', a = some ⟨b', o', none⟩ ∧ P b') ∧ kids.Blk P ∧ next.Blk P
theorem Fo.Blk.mono {P Q : Nat → Prop} (h : ∀ b, P b → Q b) : ∀ {F : Fo}, F.Blk P → F.Blk Q := by
  intro F
  induction F with
  | nil => exact fun _ => trivial
  | cons k t m e a c kids next ih1 ih2 =>
    rintro ⟨h0, h1, h2⟩
    refine ⟨?_, ih1 h1, ih2 h2⟩
    rcases h0 with h0 | ⟨b', o', e1, e2⟩
    · exact .inl h0
    · exact .inr ⟨b', o', e1, h _ e2⟩
/-- in a world that holds the same in those blocks the list lies as it did -/
theorem Fo.from_agree {P : Nat → Prop} {w w' : World} (h : ∀ b o v, P b → w.cell? ⟨b, o, none⟩ = some v → w'.cell? ⟨b, o, none⟩ = some v) : ∀ (F : Fo) (b o : Nat), P b → F.Blk P → F.From w b o → F.From w' b o := by
  intro F
  induction F with
  | nil => intro b o _ _ _; trivial
  | cons k t m e a c kids next ih1 ih2 =>
    rintro b o hb ⟨h0, hb1, hb2⟩ ⟨⟨h1, h2, h3, h4, h5⟩, hk, hc, hm, ht, hn⟩
    refine ⟨⟨h _ _ _ hb h1, h _ _ _ hb h2, h _ _ _ hb h3, h _ _ _ hb h4, h _ _ _ hb h5⟩, ?_, hc, hm, ht, ih2 _ _ hb hb2 hn⟩
    rcases hk with hk | ⟨b', o', e1, e2⟩
    · exact .inl hk
    · rcases h0 with h0 | ⟨b'', o'', e3, e4⟩
      · exact .inl h0
      · rw [e1] at e3
        have e5 : b' = b'' := by simpa using congrArg (Option.map Addr.block) e3
        subst e5
        exact .inr ⟨b', o', e1, ih1 _ _ e4 hb1 e2⟩
/-- from cell o of block nb on lies a tree like this one -/
def Cop (P : Nat → Prop) (w : World) (nb o : Nat) (k : Int) (t : ByteArray) (m e : Int) (kids : Fo) : Prop :=
  ∃ (a' : Option Addr) (c' : Nat) (kids' : Fo), (w.cell? ⟨nb, o, none⟩ = some (.int .i64 k) ∧ w.cell? ⟨nb, o + 1, none⟩ = some (.string t) ∧ w.cell? ⟨nb, o + 2, none⟩ = some (.int .i64 m) ∧ w.cell? ⟨nb, o + 3, none⟩ = some (.int .i64 e) ∧ w.cell? ⟨nb, o + 4, none⟩ = some (.slice a' kids'.len c')) ∧
    (kids' = .nil ∨ ∃ b' o', a' = some ⟨b', o', none⟩ ∧ P b' ∧ kids'.From w b' o') ∧ kids'.Blk P ∧ kids'.alike kids ∧ kids'.len ≤ c' ∧ c' ≤ maxLen ∧ t.size ≤ maxLen
theorem Cop.agree {P : Nat → Prop} {w w' : World} {nb o : Nat} {k : Int} {t : ByteArray} {m e : Int} {kids : Fo} (h : Cop P w nb o k t m e kids) (hP : ∀ b o v, P b → w.cell? ⟨b, o, none⟩ = some v → w'.cell? ⟨b, o, none⟩ = some v)
    (hnb : ∀ q v, q < 5 → w.cell? ⟨nb, o + q, none⟩ = some v → w'.cell? ⟨nb, o + q, none⟩ = some v) : Cop P w' nb o k t m e kids := by
  obtain ⟨a', c', kids', ⟨h1, h2, h3, h4, h5⟩, hk, hr⟩ := h
  refine ⟨a', c', kids', ⟨hnb 0 _ (by omega) h1, hnb 1 _ (by omega) h2, hnb 2 _ (by omega) h3, hnb 3 _ (by omega) h4, hnb 4 _ (by omega) h5⟩, ?_, hr⟩
  rcases hk with hk | ⟨b', o', e1, e2, e3⟩
  · exact .inl hk
  · exact .inr ⟨b', o', e1, e2, Fo.from_agree hP kids' b' o' e2 hr.1 e3⟩
/-- the first j of a list are copied -/
def Pre (P : Nat → Prop) (w : World) (nb : Nat) : Fo → Nat → Nat → Prop
  | _, _, 0 => True
  | .nil, _, _ + 1 => True
  | .cons k t m e _ _ kids next, o, j + 1 => Cop P w nb o k t m e kids ∧ Pre P w nb next (o + 5) j
theorem Pre.agree {P : Nat → Prop} {w w' : World} {nb : Nat} (hP : ∀ b o v, P b → w.cell? ⟨b, o, none⟩ = some v → w'.cell? ⟨b, o, none⟩ = some v) :
    ∀ (F : Fo) (o j : Nat), (∀ o' v, o' < o + 5 * j → w.cell? ⟨nb, o', none⟩ = some v → w'.cell? ⟨nb, o', none⟩ = some v) → Pre P w nb F o j → Pre P w' nb F o j := by
  intro F
  induction F with
  | nil => intro o j _ _; cases j <;> trivial
  | cons k t m e a c kids next _ ih =>
    intro o j hnb h
    cases j with
    | zero => trivial
    | succ j =>
      obtain ⟨h1, h2⟩ := h
      exact ⟨h1.agree hP (fun q v hq => hnb _ v (by omega)), ih _ _ (fun o' v ho => hnb o' v (by omega)) h2⟩
def Fo.drop : Fo → Nat → Fo
  | F, 0 => F
  | .nil, _ + 1 => .nil
  | .cons _ _ _ _ _ _ _ next, j + 1 => next.drop j
theorem Fo.drop_next : ∀ {F : Fo} {j : Nat} {k : Int} {t : ByteArray} {m e : Int} {a : Option Addr} {c : Nat} {kids next : Fo}, F.drop j = .cons k t m e a c kids next → F.drop (j + 1) = next := by
  intro F
  induction F with
  | nil => intro j; cases j <;> intro k t m e a c kids next h <;> cases h
  | cons k0 t0 m0 e0 a0 c0 kids0 next0 _ ih =>
    intro j k t m e a c kids next h
    cases j with
    | zero => cases h; show next0.drop 0 = next0; cases next0 <;> rfl
    | succ j => exact ih h
theorem Pre.snoc {P : Nat → Prop} {w : World} {nb : Nat} : ∀ {F : Fo} {o j : Nat} {k : Int} {t : ByteArray} {m e : Int} {a : Option Addr} {c : Nat} {kids next : Fo}, F.drop j = .cons k t m e a c kids next → Pre P w nb F o j → Cop P w nb (o + 5 * j) k t m e kids → Pre P w nb F o (j + 1) := by
  intro F
  induction F with
  | nil => intro o j; cases j <;> intro k t m e a c kids next h <;> cases h
  | cons k0 t0 m0 e0 a0 c0 kids0 next0 _ ih =>
    intro o j k t m e a c kids next h hp hc
    cases j with
    | zero =>
      cases h
      refine ⟨by simpa using hc, ?_⟩
      unfold Pre; trivial
    | succ j =>
      obtain ⟨h1, h2⟩ := hp
      refine ⟨h1, ih h h2 ?_⟩
      rw [show o + 5 + 5 * j = o + 5 * (j + 1) by omega]; exact hc
/-- all are copied: there lies a list like it -/
theorem Pre.done {P : Nat → Prop} {w : World} {nb : Nat} : ∀ (F : Fo) (o j : Nat), F.len ≤ j → Pre P w nb F o j → ∃ F' : Fo, F'.alike F ∧ F'.Blk P ∧ F'.From w nb o := by
  intro F
  induction F with
  | nil => intro o j _ _; exact ⟨.nil, trivial, trivial, trivial⟩
  | cons k t m e a c kids next _ ih =>
    intro o j hj h
    have hj' : next.len + 1 ≤ j := hj
    obtain ⟨j, rfl⟩ : ∃ i, j = i + 1 := ⟨j - 1, by omega⟩
    obtain ⟨⟨a', c', kids', hcells, hk, hB, hA, hl, hm, ht⟩, h2⟩ := h
    obtain ⟨next', hA2, hB2, hF2⟩ := ih (o + 5) j (by omega) h2
    refine ⟨.cons k t m e a' c' kids' next', ⟨⟨rfl, rfl, rfl, rfl⟩, hA, hA2⟩, ⟨?_, hB, hB2⟩, hcells, ?_, hl, hm, ht, hF2⟩
    · rcases hk with hk | ⟨b', o', e1, e2, _⟩
      · exact .inl hk
      · exact .inr ⟨b', o', e1, e2⟩
    · rcases hk with hk | ⟨b', o', e1, _, e3⟩
      · exact .inl hk
      · exact .inr ⟨b', o', e1, e3⟩
end Go.Proofs.Ytbbbmmemfndnlaa
/- Plain mathematics of decimals: no program in it. -/
namespace Go.Proofs.Ytbbbmmemfndnlaa.Dm
def strip : Nat → Int → Int → Int × Int
  | 0, m, e => (m, e)
  | k + 1, m, e => if m.tmod 10 = 0 then strip k (m.tdiv 10) (e + 1) else (m, e)

theorem strip_at (k : Nat) (m e : Int) (h : m.tmod 10 ≠ 0) : strip k m e = (m, e) := by
  cases k with
  | zero => rfl
  | succ k => rw [strip, if_neg h]

/-- in its form -/
def ok (m e : Int) : Bool := if m = 0 then e == 0 else decide (-99999999 ≤ m) && decide (m ≤ 99999999) && decide (-8 ≤ e) && decide (e ≤ 8) && (m.tmod 10 != 0)
theorem ok_iff (m e : Int) : ok m e = true ↔ (m = 0 ∧ e = 0) ∨ (m ≠ 0 ∧ -99999999 ≤ m ∧ m ≤ 99999999 ∧ -8 ≤ e ∧ e ≤ 8 ∧ m.tmod 10 ≠ 0) := by
  unfold ok
  by_cases h : m = 0 <;> simp [h, and_assoc]
/-- the number in its form, if it has room -/
def norm (m e : Int) : Int × Int × Bool :=
  if m = 0 then (0, 0, true) else if ok (strip 20 m e).1 (strip 20 m e).2 then ((strip 20 m e).1, (strip 20 m e).2, true) else (0, 0, false)
/-- what a stripping loop has come to behind j rounds -/
def Strip (m e : Int) (j : Nat) (m' e' : Int) : Prop :=
  m' ≠ 0 ∧ m'.natAbs * 10 ^ j ≤ 1000000000000000000 ∧ e' = e + j ∧ strip (20 - j) m' e' = strip 20 m e
theorem pow10_le {a j : Nat} (ha : 1 ≤ a) (h : a * 10 ^ j ≤ 1000000000000000000) : j ≤ 18 := by
  by_cases hj : j ≤ 18
  · exact hj
  · have h1 : 10 ^ 19 ≤ 10 ^ j := Nat.pow_le_pow_right (by omega) (by omega)
    have h2 : 1 * 10 ^ j ≤ a * 10 ^ j := Nat.mul_le_mul_right _ ha
    omega
theorem Strip.bound {m e m' e' : Int} {j : Nat} (h : Strip m e j m' e') : j ≤ 18 ∧ -1000000000000000000 ≤ m' ∧ m' ≤ 1000000000000000000 := by
  obtain ⟨h0, h1, h2, h3⟩ := h
  have hj := pow10_le (a := m'.natAbs) (by omega) h1
  have : m'.natAbs * 1 ≤ m'.natAbs * 10 ^ j := Nat.mul_le_mul_left _ (Nat.one_le_pow j 10 (by omega))
  omega
theorem Strip.stop {m e m' e' : Int} {j : Nat} (h : Strip m e j m' e') (hz : m'.tmod 10 ≠ 0) : strip 20 m e = (m', e') := by
  obtain ⟨h0, h1, h2, h3⟩ := h
  rw [← h3, strip_at _ _ _ hz]
/-- DecNew -/
def new (m e : Int) : Int × Int × Bool :=
  if (-100000000000000000 ≤ m ∧ m ≤ 100000000000000000) ∧ (-32 ≤ e ∧ e ≤ 32) then norm m e else (0, 0, false)
/-- a whole number times a power of ten -/
def p10 (k : Int) : Int := (10 : Int) ^ k.toNat
/-- manAt -/
def manAt (m x p : Int) : Int × Bool := if m = 0 then (0, true) else if 8 < x - p then (0, false) else (m * p10 (x - p), true)
/-- l1Up behind so many rounds: nothing, if it went too far on the way -/
def up : Nat → Int → Int × Bool
  | 0, n => (n, true)
  | k + 1, n => if 1000000000 < n * 10 ∨ n * 10 < -1000000000 then (0, false) else up k (n * 10)
/-- DecAdd of two in their form -/
def add1 (m x n y : Int) : Int × Int × Bool :=
  if (manAt m x (min x y)).2 = true ∧ (manAt n y (min x y)).2 = true then new ((manAt m x (min x y)).1 + (manAt n y (min x y)).1) (min x y) else (0, 0, false)
def add (m x n y : Int) : Int × Int × Bool := if ok m x = true ∧ ok n y = true then add1 m x n y else (0, 0, false)
/-- DecSub -/
def sub (m x n y : Int) : Int × Int × Bool := if ok m x = true ∧ ok n y = true then add1 m x (-n) y else (0, 0, false)
end Go.Proofs.Ytbbbmmemfndnlaa.Dm
/- Contracts of the leaves of chapter 1: within, l1In, l1Big, DecOk of both sides, toDec, eqDec. -/
namespace Go.Proofs.Ytbbbmmemfndnlaa
open Go.RowKit

theorem ret_bool {a b : Bool} (h : a = b) : Ending.returned (.bool a) = .returned (.bool b) := by rw [h]

set_option maxHeartbeats 400000 in
theorem l1In_any (n a b : Int) (w : World) :
    Calls Try.prog 72 #[.int .i64 n, .int .i64 a, .int .i64 b] w fun e w' => e = .returned (.bool (decide (a ≤ n) && decide (n ≤ b))) ∧ w' = w := by
  go_enter Try.func72, Try.ntmps72
  go_wp2
  all_goals
    go_ret
    exact ⟨ret_bool (by simp; try omega), rfl⟩

set_option maxHeartbeats 400000 in
theorem iDecOk_any (m x : Int) (w : World) :
    Calls Try.prog 100 #[.agg #[.int .i64 m, .int .i64 x]] w fun e w' => e = .returned (.bool (Dm.ok m x)) ∧ Below w.heap.size w w' := by
  go_enter Try.func100, Try.ntmps100
  go_wp2
  all_goals
    go_ret
    exact ⟨ret_bool (by simp_all [Dm.ok]; try omega), (Below.refl _ _).alloc (Nat.le_refl _) _⟩

set_option maxHeartbeats 400000 in
theorem sDecOk_any (m x : Int) (w : World) :
    Calls Try.prog 74 #[.agg #[.int .i64 m, .int .i64 x]] w fun e w' => e = .returned (.bool (Dm.ok m x)) ∧ Below w.heap.size w w' := by
  go_enter Try.func74, Try.ntmps74
  go_wp2
  all_goals
    go_ret
    exact ⟨ret_bool (by simp_all [Dm.ok]; try omega), (Below.refl _ _).alloc (Nat.le_refl _) _⟩

end Go.Proofs.Ytbbbmmemfndnlaa
/- Small facts on worlds. -/
namespace Go.Proofs.Ytbbbmmemfndnlaa
open Go.RowKit
/-- every cell that was there is as it was, and may be written as before: two rules that need no reckoning with blocks -/
theorem bsome {W w1 : World} (hb : Below W.heap.size W w1) : (∀ b o, (W.cell? ⟨b, o, none⟩).isSome = true → w1.cell? ⟨b, o, none⟩ = W.cell? ⟨b, o, none⟩) ∧ (∀ b o, (W.cell? ⟨b, o, none⟩).isSome = true → w1.frozen? ⟨b, o, none⟩ = W.frozen? ⟨b, o, none⟩) := by
  refine ⟨fun b o h => ?_, fun b o h => ?_⟩
  · obtain ⟨u, hu⟩ := Option.isSome_iff_exists.1 h
    exact hb.cell (p := ⟨b, o, none⟩) (World.block_lt_of_cell? W _ hu)
  · obtain ⟨u, hu⟩ := Option.isSome_iff_exists.1 h
    exact hb.frozen (p := ⟨b, o, none⟩) (World.block_lt_of_cell? W _ hu)
theorem cell_alloc_is (w : World) (b o : Nat) (x : Obj) (h : (w.cell? ⟨b, o, none⟩).isSome = true) : (w.alloc x).cell? ⟨b, o, none⟩ = w.cell? ⟨b, o, none⟩ :=
  (bsome ((Below.refl _ w).alloc (Nat.le_refl _) x)).1 b o h
theorem frozen_alloc_is (w : World) (b o : Nat) (x : Obj) (h : (w.cell? ⟨b, o, none⟩).isSome = true) : (w.alloc x).frozen? ⟨b, o, none⟩ = w.frozen? ⟨b, o, none⟩ :=
  (bsome ((Below.refl _ w).alloc (Nat.le_refl _) x)).2 b o h

end Go.Proofs.Ytbbbmmemfndnlaa
/- Contracts of what the exact laws alone call: toDec, eqDec. -/
namespace Go.Proofs.Ytbbbmmemfndnlaa
open Go.RowKit

set_option maxHeartbeats 400000 in
theorem toDec_any (m x : Int) (w : World) :
    Calls Try.prog 26 #[.agg #[.int .i64 m, .int .i64 x]] w fun e w' => e = .returned (.agg #[.int .i64 m, .int .i64 x]) ∧ Below w.heap.size w w' := by
  go_enter Try.func26, Try.ntmps26
  go_wp2
  exact bodyPost_ret (v := .agg #[.int .i64 m, .int .i64 x]) (by simp [results, Try.results26, go_sem]) rfl ⟨rfl, (by (repeat' (first | assumption | exact Below.refl _ _ | refine Below.alloc ?_ ?_ _ | refine Below.setCell ?_ ?_ _ | refine Below.drew ?_ | refine below_drewN ?_ _)) <;> (first | omega | (simp <;> omega)))⟩

set_option maxHeartbeats 400000 in
theorem eqDec_any (m x n y : Int) (w : World) :
    Calls Try.prog 30 #[.agg #[.int .i64 m, .int .i64 x], .agg #[.int .i64 n, .int .i64 y]] w fun e w' => e = .returned (.bool (decide (m = n) && decide (x = y))) ∧ Below w.heap.size w w' := by
  go_enter Try.func30, Try.ntmps30
  go_wp2
  all_goals
    go_ret
    exact ⟨ret_bool (by simp_all), ((Below.refl _ _).alloc (Nat.le_refl _) _).alloc (by simp) _⟩
end Go.Proofs.Ytbbbmmemfndnlaa
/- Contracts over trees: the laws' own copy of a tree. -/
namespace Go.Proofs.Ytbbbmmemfndnlaa
open Go.RowKit
attribute [local go_sem] cell_alloc_is frozen_alloc_is
theorem nodeInfo : (Try.prog.info? 33).map (fun i => (i.zero, i.size, i.bytes)) = some (some (.agg #[.int .i64 0, .string ⟨#[]⟩, .int .i64 0, .int .i64 0, .slice none 0 0]), 5, 64) := by kernel_rfl
/-- the cells of so many new trees -/
def newCells (n : Nat) : Array Value := madeCells #[.int .i64 0, .string ⟨#[]⟩, .int .i64 0, .int .i64 0, .slice none 0 0] (n * 5)
theorem make_nodes (n : Nat) (hn : n ≤ 2000000) (w : World) : (Instr.makeSlice 31 (.int .i64 (n : Int)) (.int .i64 (n : Int))).run Try.prog w = .ok (.slice (some ⟨w.heap.size, 0, none⟩) n n) (w.alloc (.cells (newCells n) 33)) := by
  obtain ⟨i, hi, hzz⟩ := Option.map_eq_some_iff.1 nodeInfo
  simp only [Prod.mk.injEq] at hzz
  obtain ⟨hz, hs, hb⟩ := hzz
  have hr := run_make (P := Try.prog) w 31 33 i _ Try.underlying31 hi hz .i64 .i64 n n (by omega) (Int.le_refl _) (by rw [hb]; omega) (by omega)
  simp only [Int.toNat_natCast, hs] at hr
  exact hr
/-- block nb has cells for n trees, and they may be written -/
def Room (w : World) (nb n : Nat) : Prop := ∀ o, o < n * 5 → (∃ v, w.cell? ⟨nb, o, none⟩ = some v) ∧ w.frozen? ⟨nb, o, none⟩ = false
theorem room_new (w : World) (n : Nat) : Room (w.alloc (.cells (newCells n) 33)) w.heap.size n := by
  intro o ho
  have hs : (newCells n).size = n * 5 := size_madeCells _ _
  refine ⟨⟨(newCells n)[o]'(by omega), ?_⟩, by simp⟩
  rw [World.cell?_alloc_new]
  simp [show o < (newCells n).size by omega]
theorem Room.grow {w w' : World} {nb n : Nat} (h : Room w nb n) (hb : Below w.heap.size w w') : Room w' nb n := by
  intro o ho
  obtain ⟨⟨v, h1⟩, h2⟩ := h o ho
  have hl := World.block_lt_of_cell? w _ h1
  exact ⟨⟨v, (hb.cell (p := ⟨nb, o, none⟩) hl).trans h1⟩, (hb.frozen (p := ⟨nb, o, none⟩) hl).trans h2⟩
/-- a tree is written -/
def put5 (w : World) (nb o : Nat) (v0 v1 v2 v3 v4 : Value) : World := ((((w.setCell ⟨nb, o, none⟩ v0).setCell ⟨nb, o + 1, none⟩ v1).setCell ⟨nb, o + 2, none⟩ v2).setCell ⟨nb, o + 3, none⟩ v3).setCell ⟨nb, o + 4, none⟩ v4
theorem put5_other {w : World} {nb o b o' : Nat} {v0 v1 v2 v3 v4 : Value} (h : ¬ b = nb ∨ o' < o ∨ o + 5 ≤ o') : (put5 w nb o v0 v1 v2 v3 v4).cell? ⟨b, o', none⟩ = w.cell? ⟨b, o', none⟩ := by
  have ne : ∀ q, q < 5 → (⟨nb, o + q, none⟩ : Addr) ≠ ⟨b, o', none⟩ := by
    intro q hq e
    simp at e
    omega
  unfold put5
  rw [World.cell?_setCell_other _ _ _ _ (ne 4 (by omega)), World.cell?_setCell_other _ _ _ _ (ne 3 (by omega)), World.cell?_setCell_other _ _ _ _ (ne 2 (by omega)), World.cell?_setCell_other _ _ _ _ (ne 1 (by omega)), World.cell?_setCell_other _ _ _ _ (by simpa using ne 0 (by omega))]
theorem set_is {w : World} {b o o' : Nat} {v : Value} (h : ∃ u, w.cell? ⟨b, o', none⟩ = some u) : ∃ u, (w.setCell ⟨b, o, none⟩ v).cell? ⟨b, o', none⟩ = some u := by
  obtain ⟨u, hu⟩ := h
  exact cell?_setCell_some hu
theorem set_far {w : World} {b o o' : Nat} {v : Value} (h : o ≠ o') : (w.setCell ⟨b, o, none⟩ v).cell? ⟨b, o', none⟩ = w.cell? ⟨b, o', none⟩ := World.cell?_setCell_other _ _ _ _ (fun e => h (by simpa using congrArg Addr.off e))
theorem set_near {w : World} {b o : Nat} {v : Value} (h : ∃ u, w.cell? ⟨b, o, none⟩ = some u) : (w.setCell ⟨b, o, none⟩ v).cell? ⟨b, o, none⟩ = some v := by
  obtain ⟨u, hu⟩ := h
  exact World.cell?_setCell_same w _ v hu
theorem put5_cells {w : World} {nb o : Nat} {v0 v1 v2 v3 v4 : Value} (h : ∀ q, q < 5 → ∃ u, w.cell? ⟨nb, o + q, none⟩ = some u) :
    (put5 w nb o v0 v1 v2 v3 v4).cell? ⟨nb, o, none⟩ = some v0 ∧ (put5 w nb o v0 v1 v2 v3 v4).cell? ⟨nb, o + 1, none⟩ = some v1 ∧ (put5 w nb o v0 v1 v2 v3 v4).cell? ⟨nb, o + 2, none⟩ = some v2 ∧ (put5 w nb o v0 v1 v2 v3 v4).cell? ⟨nb, o + 3, none⟩ = some v3 ∧ (put5 w nb o v0 v1 v2 v3 v4).cell? ⟨nb, o + 4, none⟩ = some v4 := by
  have h0 := h 0 (by omega)
  have h1 := h 1 (by omega)
  have h2 := h 2 (by omega)
  have h3 := h 3 (by omega)
  have h4 := h 4 (by omega)
  unfold put5
  refine ⟨?_, ?_, ?_, ?_, ?_⟩
  · rw [set_far (by omega), set_far (by omega), set_far (by omega), set_far (by omega)]; exact set_near h0
  · rw [set_far (by omega), set_far (by omega), set_far (by omega)]; exact set_near (set_is h1)
  · rw [set_far (by omega), set_far (by omega)]; exact set_near (set_is (set_is h2))
  · rw [set_far (by omega)]; exact set_near (set_is (set_is (set_is h3)))
  · exact set_near (set_is (set_is (set_is (set_is h4))))
theorem put5_size (w : World) (nb o : Nat) (v0 v1 v2 v3 v4 : Value) : (put5 w nb o v0 v1 v2 v3 v4).heap.size = w.heap.size := by simp [put5, World.setCell]
theorem put5_below {B : Nat} {w0 w : World} {nb : Nat} (h : Below B w0 w) (hB : B ≤ nb) (o : Nat) (v0 v1 v2 v3 v4 : Value) : Below B w0 (put5 w nb o v0 v1 v2 v3 v4) :=
  ((((h.setCell (p := ⟨nb, o, none⟩) hB v0).setCell (p := ⟨nb, o + 1, none⟩) hB v1).setCell (p := ⟨nb, o + 2, none⟩) hB v2).setCell (p := ⟨nb, o + 3, none⟩) hB v3).setCell (p := ⟨nb, o + 4, none⟩) hB v4
theorem Room.put5 {w : World} {nb n : Nat} (h : Room w nb n) (o : Nat) (v0 v1 v2 v3 v4 : Value) : Room (put5 w nb o v0 v1 v2 v3 v4) nb n := by
  intro o' ho
  obtain ⟨h1, h2⟩ := h o' ho
  refine ⟨?_, by simpa [Go.Proofs.Ytbbbmmemfndnlaa.put5] using h2⟩
  unfold Go.Proofs.Ytbbbmmemfndnlaa.put5
  exact set_is (set_is (set_is (set_is (set_is h1))))

set_option maxHeartbeats 1000000 in
theorem toNodeS_step (N : Nat) (H : ∀ (k : Int) (t : ByteArray) (m e : Int) (a : Option Addr) (c : Nat) (F : Fo) (w : World), F.size < N → F.size ≤ 2000000 → F.In w a → F.len ≤ c → c ≤ maxLen → t.size ≤ maxLen →
      Calls Try.prog 9 #[nodeV k t m e a F.len c] w fun r w' => (∃ (nb : Nat) (F' : Fo), r = .returned (nodeV k t m e (some ⟨nb, 0, none⟩) F'.len F'.len) ∧ w.heap.size ≤ nb ∧ F'.alike F ∧ F'.Blk (fun b => w.heap.size ≤ b) ∧ F'.From w' nb 0) ∧ Below w.heap.size w w') :
    ∀ (a : Option Addr) (c : Nat) (F : Fo) (w : World), F.size ≤ N → F.size ≤ 2000000 → F.In w a → F.len ≤ c → c ≤ maxLen →
      Calls Try.prog 27 #[.slice a F.len c] w fun r w' => (∃ (nb : Nat) (F' : Fo), r = .returned (.slice (some ⟨nb, 0, none⟩) F'.len F'.len) ∧ w.heap.size ≤ nb ∧ F'.alike F ∧ F'.Blk (fun b => w.heap.size ≤ b) ∧ F'.From w' nb 0) ∧ Below w.heap.size w w' := by
  intro a c F w hF hF2 hin hl hc
  have hll := F.len_le
  have hmk := make_nodes F.len (by omega)
  unfold maxLen at hc
  go_enter Try.func27, Try.ntmps27
  go_wp2_with fail
  go_loopw [4] (fun i wr => ∃ (j : Nat) (G : Fo), i = .int .i64 j ∧ F.drop j = G ∧ j + G.len = F.len ∧ G.size ≤ F.size ∧ (G = .nil ∨ ∃ b o', a = some ⟨b, o', none⟩ ∧ G.From w b (o' + j * 5)) ∧ Room wr w.heap.size F.len ∧ Pre (fun b => w.heap.size < b) wr w.heap.size F 0 j ∧ w.heap.size < wr.heap.size ∧ Below w.heap.size w wr) (fun i _ => F.len - (intOf i).toNat)
  case atStart =>
    refine ⟨0, F, rfl, by cases F <;> rfl, by omega, Nat.le_refl _, ?_, room_new w F.len, by unfold Pre; trivial, by simp, (Below.refl _ _).alloc (Nat.le_refl _) _⟩
    rcases hin with h | ⟨b, o', e1, e2⟩
    · exact .inl h
    · exact .inr ⟨b, o', e1, by simpa using e2⟩
  case round =>
    obtain ⟨j, G, rfl, hd, hj, hs, hG, hR, hP, hsz, hb⟩ := hrel
    cases G with
    | nil =>
      have hj' : j = F.len := by simpa [Fo.len] using hj
      clear hj hs hG H hd
      have HP : Hid (Pre (fun b => w.heap.size < b) wr w.heap.size F 0 j) := hP
      clear hP
      subst hj'
      go_wp2_with fail
      go_ret
      obtain ⟨F', h1, h2, h3⟩ := Pre.done F 0 F.len (Nat.le_refl _) HP.out
      refine ⟨⟨w.heap.size, F', ?_, Nat.le_refl _, h1, h2.mono (fun b hb => Nat.le_of_lt hb), h3⟩, hb⟩
      rw [Fo.alike_len h1]; rfl
    | cons k' t' m' e' a' c' kids next =>
      rcases hG with hG | ⟨b, o', rfl, hfrom⟩
      · cases hG
      · obtain ⟨⟨h1, h2, h3, h4, h5⟩, hk, hc1, hc2, ht', hn⟩ := Fo.from_grow hb _ _ _ hfrom
        have hnw : next.From w b (o' + j * 5 + 5) := hfrom.2.2.2.2.2
        have hln : j + (next.len + 1) = F.len := hj
        have hlt : (j : Int) < (F.len : Int) := by omega
        have hjl : j < F.len := by omega
        have hss : kids.size + 1 + next.size ≤ F.size := hs
        have HD : Hid (F.drop j = .cons k' t' m' e' a' c' kids next) := hd
        have HP : Hid (Pre (fun b => w.heap.size < b) wr w.heap.size F 0 j) := hP
        have HN : Hid (next.From w b (o' + j * 5 + 5)) := hnw
        clear hj hin hs hd hP hnw hn hfrom
        go_wp2_with fail
        refine (H k' t' m' e' a' c' kids wr (by omega) (by omega) hk hc1 hc2 ht').mono ?_
        rintro r w1 ⟨⟨nb, F1, rfl, hnb, hA, hB, hF1⟩, hb1⟩
        have hR1 := hR.grow hb1
        have hz1 := hb1.size
        have HP1 : Hid (Pre (fun b => w.heap.size < b) w1 w.heap.size F 0 j) := Pre.agree (fun b o v _ hv => (hb1.cell (p := ⟨b, o, none⟩) (World.block_lt_of_cell? wr _ hv)).trans hv) F 0 j (fun o v _ hv => (hb1.cell (p := ⟨_, o, none⟩) (World.block_lt_of_cell? wr _ hv)).trans hv) HP.out
        have hb2 := hb.trans (hb1.mono hb.size)
        obtain ⟨⟨v0, c0⟩, f0⟩ := hR1 (j * 5) (by omega)
        obtain ⟨⟨v1, c1⟩, f1⟩ := hR1 (j * 5 + 1) (by omega)
        obtain ⟨⟨v2, c2⟩, f2⟩ := hR1 (j * 5 + 2) (by omega)
        obtain ⟨⟨v3, c3⟩, f3⟩ := hR1 (j * 5 + 3) (by omega)
        obtain ⟨⟨v4, c4⟩, f4⟩ := hR1 (j * 5 + 4) (by omega)
        clear h1 h2 h3 h4 h5 hk hR hb hb1 HP H
        have HF : Hid (F1.alike kids ∧ F1.Blk (fun b => wr.heap.size ≤ b) ∧ F1.From w1 nb 0) := ⟨hA, hB, hF1⟩
        clear hA hB hF1
        go_wp2_with fail
        go_round
        case rel =>
          obtain ⟨hA, hB, hF1⟩ := HF.out
          have hl1 := Fo.alike_len hA
          have hP2 : Pre (fun b => w.heap.size < b) (put5 w1 w.heap.size (j * 5) (.int .i64 k') (.string t') (.int .i64 m') (.int .i64 e') (.slice (some ⟨nb, 0, none⟩) F1.len F1.len)) w.heap.size F 0 j :=
            Pre.agree (fun b o v hb hv => (put5_other (.inl (by omega))).trans hv) F 0 j (fun o v ho hv => (put5_other (.inr (.inl (by omega)))).trans hv) HP1.out
          have hC : Cop (fun b => w.heap.size < b) (put5 w1 w.heap.size (j * 5) (.int .i64 k') (.string t') (.int .i64 m') (.int .i64 e') (.slice (some ⟨nb, 0, none⟩) F1.len F1.len)) w.heap.size (0 + 5 * j) k' t' m' e' kids := by
            rw [show 0 + 5 * j = j * 5 by omega]
            refine ⟨some ⟨nb, 0, none⟩, F1.len, F1, put5_cells (fun q hq => (hR1 (j * 5 + q) (by omega)).1), .inr ⟨nb, 0, rfl, by omega, ?_⟩, hB.mono (fun b hb => by omega), hA, Nat.le_refl _, by omega, ht'⟩
            exact Fo.from_agree (P := fun b => w.heap.size < b) (fun b o v hb hv => (put5_other (.inl (by omega))).trans hv) F1 nb 0 (by omega) (hB.mono (fun b hb => by omega)) hF1
          refine ⟨j + 1, next, by go_num, Fo.drop_next HD.out, by omega, by omega, .inr ⟨b, o', rfl, ?_⟩, hR1.put5 _ _ _ _ _ _, Pre.snoc HD.out hP2 hC, ?_, put5_below hb2 (Nat.le_refl _) _ _ _ _ _ _⟩
          · rw [show o' + (j + 1) * 5 = o' + j * 5 + 5 by omega]; exact HN.out
          · show w.heap.size < (put5 w1 w.heap.size (j * 5) _ _ _ _ _).heap.size
            rw [put5_size]; omega
        case measure => simp [intOf]; omega

/-- five cells of a block, that may be written -/
def Five (w : World) (b : Nat) (v0 v1 v2 v3 v4 : Value) : Prop := (w.cell? ⟨b, 0, none⟩ = some v0 ∧ w.cell? ⟨b, 1, none⟩ = some v1 ∧ w.cell? ⟨b, 2, none⟩ = some v2 ∧ w.cell? ⟨b, 3, none⟩ = some v3 ∧ w.cell? ⟨b, 4, none⟩ = some v4) ∧ (w.frozen? ⟨b, 0, none⟩ = false ∧ w.frozen? ⟨b, 1, none⟩ = false ∧ w.frozen? ⟨b, 2, none⟩ = false ∧ w.frozen? ⟨b, 3, none⟩ = false ∧ w.frozen? ⟨b, 4, none⟩ = false)
theorem Five.new (w : World) (v0 v1 v2 v3 v4 : Value) (T : TypeId) : Five (w.alloc (.cells #[v0, v1, v2, v3, v4] T)) w.heap.size v0 v1 v2 v3 v4 := by
  refine ⟨⟨?_, ?_, ?_, ?_, ?_⟩, ?_, ?_, ?_, ?_, ?_⟩ <;> simp
theorem Five.lt {w : World} {b : Nat} {v0 v1 v2 v3 v4 : Value} (h : Five w b v0 v1 v2 v3 v4) : b < w.heap.size := World.block_lt_of_cell? w _ h.1.1
theorem Five.below {B : Nat} {w w' : World} {b : Nat} {v0 v1 v2 v3 v4 : Value} (h : Five w b v0 v1 v2 v3 v4) (hb : Below B w w') (hB : b < B) : Five w' b v0 v1 v2 v3 v4 := by
  obtain ⟨⟨a0, a1, a2, a3, a4⟩, f0, f1, f2, f3, f4⟩ := h
  exact ⟨⟨(hb.cell (p := ⟨b, 0, none⟩) hB).trans a0, (hb.cell (p := ⟨b, 1, none⟩) hB).trans a1, (hb.cell (p := ⟨b, 2, none⟩) hB).trans a2, (hb.cell (p := ⟨b, 3, none⟩) hB).trans a3, (hb.cell (p := ⟨b, 4, none⟩) hB).trans a4⟩, (hb.frozen (p := ⟨b, 0, none⟩) hB).trans f0, (hb.frozen (p := ⟨b, 1, none⟩) hB).trans f1, (hb.frozen (p := ⟨b, 2, none⟩) hB).trans f2, (hb.frozen (p := ⟨b, 3, none⟩) hB).trans f3, (hb.frozen (p := ⟨b, 4, none⟩) hB).trans f4⟩

theorem Five.setOther {w : World} {b : Nat} {v0 v1 v2 v3 v4 : Value} (h : Five w b v0 v1 v2 v3 v4) {j : Nat} (hj : ¬ b = j) (o : Nat) (u : Value) : Five (w.setCell ⟨j, o, none⟩ u) b v0 v1 v2 v3 v4 := by
  obtain ⟨⟨a0, a1, a2, a3, a4⟩, f0, f1, f2, f3, f4⟩ := h
  have far : ∀ o', (w.setCell ⟨j, o, none⟩ u).cell? ⟨b, o', none⟩ = w.cell? ⟨b, o', none⟩ := fun o' => World.cell?_setCell_other _ _ _ _ (fun e => hj (by simpa using congrArg Addr.block e.symm))
  exact ⟨⟨(far 0).trans a0, (far 1).trans a1, (far 2).trans a2, (far 3).trans a3, (far 4).trans a4⟩, by simpa using f0, by simpa using f1, by simpa using f2, by simpa using f3, by simpa using f4⟩
theorem Five.setNum {w : World} {b : Nat} {v0 v1 v2 v3 v4 : Value} (h : Five w b v0 v1 v2 v3 v4) (u2 u3 : Value) : Five ((w.setCell ⟨b, 2, none⟩ u2).setCell ⟨b, 3, none⟩ u3) b v0 v1 u2 u3 v4 := by
  obtain ⟨⟨a0, a1, a2, a3, a4⟩, f0, f1, f2, f3, f4⟩ := h
  refine ⟨⟨?_, ?_, ?_, ?_, ?_⟩, by simpa using f0, by simpa using f1, by simpa using f2, by simpa using f3, by simpa using f4⟩
  · rw [set_far (by omega), set_far (by omega)]; exact a0
  · rw [set_far (by omega), set_far (by omega)]; exact a1
  · rw [set_far (by omega)]; exact set_near ⟨_, a2⟩
  · exact set_near (set_is ⟨_, a3⟩)
  · rw [set_far (by omega), set_far (by omega)]; exact a4

set_option maxHeartbeats 1000000 in
theorem toNode_step (N : Nat) (H : ∀ (a : Option Addr) (c : Nat) (F : Fo) (w : World), F.size ≤ N → F.size ≤ 2000000 → F.In w a → F.len ≤ c → c ≤ maxLen →
      Calls Try.prog 27 #[.slice a F.len c] w fun r w' => (∃ (nb : Nat) (F' : Fo), r = .returned (.slice (some ⟨nb, 0, none⟩) F'.len F'.len) ∧ w.heap.size ≤ nb ∧ F'.alike F ∧ F'.Blk (fun b => w.heap.size ≤ b) ∧ F'.From w' nb 0) ∧ Below w.heap.size w w') :
    ∀ (k : Int) (t : ByteArray) (m e : Int) (a : Option Addr) (c : Nat) (F : Fo) (w : World), F.size ≤ N → F.size ≤ 2000000 → F.In w a → F.len ≤ c → c ≤ maxLen →
      Calls Try.prog 9 #[nodeV k t m e a F.len c] w fun r w' => (∃ (nb : Nat) (F' : Fo), r = .returned (nodeV k t m e (some ⟨nb, 0, none⟩) F'.len F'.len) ∧ w.heap.size ≤ nb ∧ F'.alike F ∧ F'.Blk (fun b => w.heap.size ≤ b) ∧ F'.From w' nb 0) ∧ Below w.heap.size w w' := by
  intro k t m e a c F w hF hF2 hin hl hc
  obtain ⟨W0, hW0⟩ : ∃ W0, W0 = ((w.alloc (.cells #[.int .i64 k, .string t, .int .i64 m, .int .i64 e, .slice a F.len c] 26)).alloc (.cells #[.int .i64 0, .string ⟨#[]⟩, .int .i64 0, .int .i64 0, .slice none 0 0] 33)).alloc (.cells #[.int .i64 k, .string t, .int .i64 0, .int .i64 0, .slice none 0 0] 33) := ⟨_, rfl⟩
  have hB0 : Below w.heap.size w W0 := by subst hW0; exact (by (repeat' (first | assumption | exact Below.refl _ _ | refine Below.alloc ?_ ?_ _ | refine Below.setCell ?_ ?_ _ | refine Below.drew ?_ | refine below_drewN ?_ _)) <;> (first | omega | (simp <;> omega)))
  have hsz : W0.heap.size = w.heap.size + 1 + 1 + 1 := by subst hW0; simp
  have A0 : Five W0 w.heap.size (.int .i64 k) (.string t) (.int .i64 m) (.int .i64 e) (.slice a F.len c) := by
    subst hW0
    exact ((Five.new w _ _ _ _ _ _).below ((Below.refl _ _).alloc (Nat.le_refl _) _) (by simp)).below ((Below.refl _ _).alloc (Nat.le_refl _) _) (by simp; omega)
  have B0 : Five W0 (w.heap.size + 1) (.int .i64 0) (.string ⟨#[]⟩) (.int .i64 0) (.int .i64 0) (.slice none 0 0) := by
    subst hW0
    have := Five.new (w.alloc (.cells #[.int .i64 k, .string t, .int .i64 m, .int .i64 e, .slice a F.len c] 26)) (.int .i64 0) (.string ⟨#[]⟩) (.int .i64 0) (.int .i64 0) (.slice none 0 0) 33
    rw [World.size_alloc] at this
    exact this.below ((Below.refl _ _).alloc (Nat.le_refl _) _) (by simp)
  have C0 : Five W0 (w.heap.size + 1 + 1) (.int .i64 k) (.string t) (.int .i64 0) (.int .i64 0) (.slice none 0 0) := by
    subst hW0
    have := Five.new ((w.alloc (.cells #[.int .i64 k, .string t, .int .i64 m, .int .i64 e, .slice a F.len c] 26)).alloc (.cells #[.int .i64 0, .string ⟨#[]⟩, .int .i64 0, .int .i64 0, .slice none 0 0] 33)) (.int .i64 k) (.string t) (.int .i64 0) (.int .i64 0) (.slice none 0 0) 33
    rw [World.size_alloc, World.size_alloc] at this
    exact this
  have l1 : w.heap.size < W0.heap.size := by omega
  have l2 : w.heap.size + 1 < W0.heap.size := by omega
  have l3 : w.heap.size + 1 + 1 < W0.heap.size := by omega
  have HSZ : Hid (W0.heap.size = w.heap.size + 1 + 1 + 1) := hsz
  clear hsz
  go_enter Try.func9, Try.ntmps9
  go_wp2_with fail
  rw [← hW0]
  clear hW0
  refine (toDec_any _ _ _).mono ?_
  rintro r w1 ⟨rfl, hb1⟩
  have A1 := A0.below hb1 l1
  have B1 := B0.below hb1 l2
  have C1 := C0.below hb1 l3
  have hB1 := hB0.trans (hb1.mono (Nat.le_of_lt l1))
  have hz1 := hb1.size
  clear A0 B0 C0 hB0 hb1
  obtain ⟨⟨a0, a1, a2, a3, a4⟩, _, _, _, _, _⟩ := id A1
  obtain ⟨⟨c0, c1, c2, c3, c4⟩, g0, g1, g2, g3, g4⟩ := id C1
  go_wp2_with fail
  obtain ⟨W2, hW2⟩ : ∃ W2, W2 = (w1.setCell ⟨w.heap.size + 1 + 1, 2, none⟩ (.int .i64 m)).setCell ⟨w.heap.size + 1 + 1, 3, none⟩ (.int .i64 e) := ⟨_, rfl⟩
  have C2 : Five W2 (w.heap.size + 1 + 1) (.int .i64 k) (.string t) (.int .i64 m) (.int .i64 e) (.slice none 0 0) := by rw [hW2]; exact C1.setNum _ _
  have B2 : Five W2 (w.heap.size + 1) (.int .i64 0) (.string ⟨#[]⟩) (.int .i64 0) (.int .i64 0) (.slice none 0 0) := by rw [hW2]; exact (B1.setOther (by omega) _ _).setOther (by omega) _ _
  have hB2 : Below w.heap.size w W2 := by rw [hW2]; exact (hB1.setCell (p := ⟨w.heap.size + 1 + 1, 2, none⟩) (by show _ ≤ _ + 1 + 1; omega) _).setCell (p := ⟨w.heap.size + 1 + 1, 3, none⟩) (by show _ ≤ _ + 1 + 1; omega) _
  rw [← hW2]
  clear hW2 a0 a1 a2 a3 a4 c0 c1 c2 c3 c4 g0 g1 g2 g3 g4 A1 B1 C1 hB1
  refine (H a c F W2 hF hF2 (hin.grow hB2) hl hc).mono ?_
  rintro r w3 ⟨⟨nb, F', rfl, hnb, hA, hK, hFr⟩, hb3⟩
  have lC := C2.lt
  have C3 := C2.below hb3 lC
  have B3 := B2.below hb3 B2.lt
  have hB3 := hB2.trans (hb3.mono hB2.size)
  clear B2 C2 hB2 hb3 H hin
  have HF : Hid (F'.alike F ∧ F'.Blk (fun b => W2.heap.size ≤ b) ∧ F'.From w3 nb 0) := ⟨hA, hK, hFr⟩
  clear hA hK hFr
  obtain ⟨⟨b0, b1, b2, b3, b4⟩, e0, e1, e2, e3, e4⟩ := B3
  obtain ⟨⟨c0, c1, c2, c3, c4⟩, g0, g1, g2, g3, g4⟩ := C3
  go_wp2_with fail
  have hne : ∀ o : Nat, ((w3.setCell ⟨w.heap.size + 1 + 1, 4, none⟩ (.slice (some ⟨nb, 0, none⟩) F'.len F'.len)).cell? ⟨w.heap.size + 1, o, none⟩) = w3.cell? ⟨w.heap.size + 1, o, none⟩ := fun o => World.cell?_setCell_other _ _ _ _ (by simp)
  obtain ⟨p0, p1, p2, p3, p4⟩ := put5_cells (w := w3.setCell ⟨w.heap.size + 1 + 1, 4, none⟩ (.slice (some ⟨nb, 0, none⟩) F'.len F'.len)) (nb := w.heap.size + 1) (o := 0) (v0 := .int .i64 k) (v1 := .string t) (v2 := .int .i64 m) (v3 := .int .i64 e) (v4 := .slice (some ⟨nb, 0, none⟩) F'.len F'.len)
    (fun q hq => by
      rw [hne, Nat.zero_add]
      have : q = 0 ∨ q = 1 ∨ q = 2 ∨ q = 3 ∨ q = 4 := by omega
      rcases this with rfl | rfl | rfl | rfl | rfl
      · exact ⟨_, b0⟩
      · exact ⟨_, b1⟩
      · exact ⟨_, b2⟩
      · exact ⟨_, b3⟩
      · exact ⟨_, b4⟩)
  simp only [Nat.zero_add] at p0 p1 p2 p3 p4
  obtain ⟨W4, hW4⟩ : ∃ W4, W4 = put5 (w3.setCell ⟨w.heap.size + 1 + 1, 4, none⟩ (.slice (some ⟨nb, 0, none⟩) F'.len F'.len)) (w.heap.size + 1) 0 (.int .i64 k) (.string t) (.int .i64 m) (.int .i64 e) (.slice (some ⟨nb, 0, none⟩) F'.len F'.len) := ⟨_, rfl⟩
  have hB4 : Below w.heap.size w W4 := by rw [hW4]; exact put5_below (hB3.setCell (p := ⟨w.heap.size + 1 + 1, 4, none⟩) (by show _ ≤ _ + 1 + 1; omega) _) (by omega) _ _ _ _ _ _
  have hF4 : F'.From W4 nb 0 := by
    obtain ⟨hA, hK, hFr⟩ := HF.out
    refine Fo.from_agree (P := fun b => W2.heap.size ≤ b) (fun b o v hb hv => ?_) F' nb 0 hnb hK hFr
    rw [hW4, put5_other (.inl (by omega))]
    exact (World.cell?_setCell_other _ _ _ _ (fun e => by have : w.heap.size + 1 + 1 = b := by simpa using congrArg Addr.block e
                                                          omega)).trans hv
  rw [← hW4] at p0 p1 p2 p3 p4
  show bodyPost Try.prog Try.f9 _ Exit.ret _ (put5 (w3.setCell ⟨w.heap.size + 1 + 1, 4, none⟩ (.slice (some ⟨nb, 0, none⟩) F'.len F'.len)) (w.heap.size + 1) 0 (.int .i64 k) (.string t) (.int .i64 m) (.int .i64 e) (.slice (some ⟨nb, 0, none⟩) F'.len F'.len))
  rw [← hW4]
  obtain ⟨hA, hK, _⟩ := HF.out
  refine bodyPost_ret (v := nodeV k t m e (some ⟨nb, 0, none⟩) F'.len F'.len) (by simp [results, Try.results9, go_sem, p0, p1, p2, p3, p4]) rfl ⟨⟨nb, F', rfl, by omega, hA, hK.mono (fun b hb => by omega), hF4⟩, hB4⟩
theorem toNode_all (N : Nat) : ∀ (k : Int) (t : ByteArray) (m e : Int) (a : Option Addr) (c : Nat) (F : Fo) (w : World), F.size < N → F.size ≤ 2000000 → F.In w a → F.len ≤ c → c ≤ maxLen → t.size ≤ maxLen →
      Calls Try.prog 9 #[nodeV k t m e a F.len c] w fun r w' => (∃ (nb : Nat) (F' : Fo), r = .returned (nodeV k t m e (some ⟨nb, 0, none⟩) F'.len F'.len) ∧ w.heap.size ≤ nb ∧ F'.alike F ∧ F'.Blk (fun b => w.heap.size ≤ b) ∧ F'.From w' nb 0) ∧ Below w.heap.size w w' := by
  induction N with
  | zero => intro k t m e a c F w hF; omega
  | succ N ih => exact fun k t m e a c F w hF h2 h3 h4 h5 _ => toNode_step N (toNodeS_step N ih) k t m e a c F w (by omega) h2 h3 h4 h5
end Go.Proofs.Ytbbbmmemfndnlaa
/- Contracts over trees: the laws' own copy of a tree lies in cells that were never shared with a text (no part of a block is frozen). -/
namespace Go.Proofs.Ytbbbmmemfndnlaa
open Go.RowKit
attribute [local go_sem] cell_alloc_is frozen_alloc_is
/-- from a block on all blocks are cells, none of them frozen -/
def Clean (n : Nat) (w : World) : Prop := ∀ b o, n ≤ b → w.heap[b]? = some o → ∃ cs t, o = .cells cs t (0, 0)
theorem Clean.refl (w : World) : Clean w.heap.size w := fun b o h ho => absurd (Array.getElem?_eq_some_iff.1 ho).1 (by omega)
theorem Clean.alloc {n : Nat} {w : World} (h : Clean n w) (cs : Array Value) (t : TypeId) : Clean n (w.alloc (.cells cs t)) := by
  intro b o hb ho
  have e : (w.heap.push (.cells cs t))[b]? = some o := ho
  rw [Array.getElem?_push] at e
  split at e
  · cases e; exact ⟨cs, t, rfl⟩
  · exact h b o hb e
theorem Clean.setCell {n : Nat} {w : World} (h : Clean n w) (p : Addr) (v : Value) : Clean n (w.setCell p v) := by
  intro b o hb ho
  by_cases e : b = p.block
  · subst e
    unfold World.setCell at ho
    simp only [Array.getElem?_modify, if_true] at ho
    obtain ⟨o', h1, h2⟩ := Option.map_eq_some_iff.1 ho
    obtain ⟨cs, t, rfl⟩ := h _ o' hb h1
    exact ⟨_, _, h2.symm⟩
  · rw [Below.heap_setCell _ _ _ _ e] at ho
    exact h b o hb ho
theorem Clean.trans {n : Nat} {w w' : World} (h : Clean n w) (hb : Below w.heap.size w w') (h' : Clean w.heap.size w') : Clean n w' := by
  intro b o hn ho
  by_cases hlt : b < w.heap.size
  · rw [hb.block b hlt] at ho; exact h b o hn ho
  · exact h' b o (by omega) ho
theorem Clean.put5 {n : Nat} {w : World} (h : Clean n w) (nb o : Nat) (v0 v1 v2 v3 v4 : Value) : Clean n (put5 w nb o v0 v1 v2 v3 v4) := ((((h.setCell _ _).setCell _ _).setCell _ _).setCell _ _).setCell _ _
end Go.Proofs.Ytbbbmmemfndnlaa
/- Values: a list of values as it lies in memory. Its first, what stands in the first, and the rest. -/
namespace Go.Proofs.Ytbbbmmemfndnlaa
open Go.RowKit
/-- texts one behind the other -/
def SFrom (w : World) : List ByteArray → Nat → Nat → Prop
  | [], _, _ => True
  | s :: t, b, o => w.cell? ⟨b, o, none⟩ = some (.string s) ∧ s.size ≤ maxLen ∧ SFrom w t b (o + 1)
/-- the texts of a slice -/
def SIn (w : World) (ss : List ByteArray) (a : Option Addr) : Prop := ss = [] ∨ ∃ b o, a = some ⟨b, o, none⟩ ∧ SFrom w ss b o
theorem SFrom.grow {w w' : World} (h : Below w.heap.size w w') : ∀ {ss : List ByteArray} {b o : Nat}, SFrom w ss b o → SFrom w' ss b o := by
  intro ss
  induction ss with
  | nil => intro b o _; trivial
  | cons s t ih =>
    rintro b o ⟨h1, h2, h3⟩
    exact ⟨(h.cell (p := ⟨b, o, none⟩) (World.block_lt_of_cell? w _ h1)).trans h1, h2, ih h3⟩
theorem SIn.grow {w w' : World} {ss : List ByteArray} {a : Option Addr} (hs : SIn w ss a) (h : Below w.heap.size w w') : SIn w' ss a := by
  rcases hs with rfl | ⟨b, o, rfl, hs⟩
  · exact .inl rfl
  · exact .inr ⟨b, o, rfl, hs.grow h⟩
theorem SFrom.agree {P : Nat → Prop} {w w' : World} (h : ∀ b o v, P b → w.cell? ⟨b, o, none⟩ = some v → w'.cell? ⟨b, o, none⟩ = some v) : ∀ {ss : List ByteArray} {b o : Nat}, P b → SFrom w ss b o → SFrom w' ss b o := by
  intro ss
  induction ss with
  | nil => intro b o _ _; trivial
  | cons s t ih =>
    rintro b o hb ⟨h1, h2, h3⟩
    exact ⟨h _ _ _ hb h1, h2, ih hb h3⟩
theorem SFrom.at {w : World} : ∀ {ss : List ByteArray} {b o i : Nat} {s : ByteArray}, SFrom w ss b o → ss[i]? = some s → w.cell? ⟨b, o + i, none⟩ = some (.string s) ∧ s.size ≤ maxLen := by
  intro ss
  induction ss with
  | nil => intro b o i s _ h; cases h
  | cons x t ih =>
    rintro b o i s ⟨h1, h2, h3⟩ h
    cases i with
    | zero => simp at h; subst h; exact ⟨h1, h2⟩
    | succ i =>
      have := ih h3 (show t[i]? = some s by simpa using h)
      rw [show o + 1 + i = o + (i + 1) by omega] at this
      exact this
theorem SFrom.of {w : World} : ∀ {ss : List ByteArray} {b o : Nat}, (∀ i s, ss[i]? = some s → w.cell? ⟨b, o + i, none⟩ = some (.string s) ∧ s.size ≤ maxLen) → SFrom w ss b o := by
  intro ss
  induction ss with
  | nil => intro b o _; trivial
  | cons x t ih =>
    intro b o h
    have h0 := h 0 x rfl
    refine ⟨h0.1, h0.2, ih fun i s hi => ?_⟩
    have := h (i + 1) s (by simpa using hi)
    rw [show o + (i + 1) = o + 1 + i by omega] at this
    exact this
/-- how much the laws' measure counts of texts -/
def sWt : List ByteArray → Nat
  | [] => 0
  | s :: t => s.size + 1 + sWt t
/-- a value but for what is in it: kind, number, text, names with where they lie -/
structure Hd where
  k : Int
  m : Int
  e : Int
  t : ByteArray
  na : Option Addr
  nc : Nat
  ns : List ByteArray
/-- the same but for where names lie -/
def Hd.same (h g : Hd) : Prop := (h.k = g.k ∧ h.m = g.m ∧ h.e = g.e ∧ h.t = g.t) ∧ h.ns = g.ns
theorem Hd.same_symm {h g : Hd} (x : h.same g) : g.same h := ⟨⟨x.1.1.symm, x.1.2.1.symm, x.1.2.2.1.symm, x.1.2.2.2.symm⟩, x.2.symm⟩
theorem Hd.same_trans {h g f : Hd} (x : h.same g) (y : g.same f) : h.same f := ⟨⟨x.1.1.trans y.1.1, x.1.2.1.trans y.1.2.1, x.1.2.2.1.trans y.1.2.2.1, x.1.2.2.2.trans y.1.2.2.2⟩, x.2.trans y.2⟩
/-- its texts are no longer than texts can be, its names lie there -/
def Hd.In (w : World) (h : Hd) : Prop := SIn w h.ns h.na ∧ (h.ns.length ≤ h.nc ∧ h.nc ≤ maxLen) ∧ h.t.size ≤ maxLen
theorem Hd.In.grow {w w' : World} {h : Hd} (x : h.In w) (hb : Below w.heap.size w w') : h.In w' := ⟨x.1.grow hb, x.2⟩
/-- a list of values: the first but for what is in it, where that lies, that list, the rest -/
inductive Vo
  | nil
  | cons (h : Hd) (at_ : Option Addr) (cap : Nat) (kids : Vo) (next : Vo)
def Vo.len : Vo → Nat
  | .nil => 0
  | .cons _ _ _ _ next => next.len + 1
def Vo.size : Vo → Nat
  | .nil => 0
  | .cons _ _ _ kids next => kids.size + 1 + next.size
def Vo.deep : Vo → Nat
  | .nil => 0
  | .cons _ _ _ kids next => max (kids.deep + 1) next.deep
/-- what the laws' own measure counts -/
def Vo.wt : Vo → Nat
  | .nil => 0
  | .cons h _ _ kids next => h.t.size + kids.wt + sWt h.ns + 1 + next.wt
theorem Vo.len_wt (F : Vo) : F.len ≤ F.wt := by
  induction F with
  | nil => exact Nat.le_refl _
  | cons h a c kids next _ ih => show next.len + 1 ≤ h.t.size + kids.wt + sWt h.ns + 1 + next.wt; omega
theorem Vo.size_wt (F : Vo) : F.size ≤ F.wt := by
  induction F with
  | nil => exact Nat.le_refl _
  | cons h a c kids next ih1 ih2 => show kids.size + 1 + next.size ≤ h.t.size + kids.wt + sWt h.ns + 1 + next.wt; omega
theorem Vo.len_le (F : Vo) : F.len ≤ F.size := by
  induction F with
  | nil => exact Nat.le_refl _
  | cons h a c kids next _ ih => show next.len + 1 ≤ kids.size + 1 + next.size; omega
/-- the six cells of a value -/
def Cells6 (w : World) (b o : Nat) (h : Hd) (v : Value) : Prop :=
  w.cell? ⟨b, o, none⟩ = some (.int .i64 h.k) ∧ w.cell? ⟨b, o + 1, none⟩ = some (.int .i64 h.m) ∧ w.cell? ⟨b, o + 2, none⟩ = some (.int .i64 h.e) ∧ w.cell? ⟨b, o + 3, none⟩ = some (.string h.t) ∧ w.cell? ⟨b, o + 4, none⟩ = some v ∧ w.cell? ⟨b, o + 5, none⟩ = some (.slice h.na h.ns.length h.nc)
theorem Cells6.lt {w : World} {b o : Nat} {h : Hd} {v : Value} (x : Cells6 w b o h v) : b < w.heap.size := World.block_lt_of_cell? w _ x.1
theorem Cells6.mono {w w' : World} {b o : Nat} {h : Hd} {v : Value} (x : Cells6 w b o h v) (f : ∀ o' u, w.cell? ⟨b, o', none⟩ = some u → w'.cell? ⟨b, o', none⟩ = some u) : Cells6 w' b o h v :=
  ⟨f _ _ x.1, f _ _ x.2.1, f _ _ x.2.2.1, f _ _ x.2.2.2.1, f _ _ x.2.2.2.2.1, f _ _ x.2.2.2.2.2⟩
theorem Cells6.grow {w w' : World} {b o : Nat} {h : Hd} {v : Value} (x : Cells6 w b o h v) (hb : Below w.heap.size w w') : Cells6 w' b o h v :=
  x.mono fun o' _ hu => (hb.cell (p := ⟨b, o', none⟩) (World.block_lt_of_cell? w _ hu)).trans hu
/-- the list lies from cell o of block b on -/
def Vo.From (w : World) : Vo → Nat → Nat → Prop
  | .nil, _, _ => True
  | .cons h a c kids next, b, o => Cells6 w b o h (.slice a kids.len c) ∧ (kids = .nil ∨ ∃ b' o', a = some ⟨b', o', none⟩ ∧ kids.From w b' o') ∧ (kids.len ≤ c ∧ c ≤ maxLen) ∧ h.In w ∧ next.From w b (o + 6)
/-- the list of a slice -/
def Vo.In (w : World) (F : Vo) (a : Option Addr) : Prop := F = .nil ∨ ∃ b o, a = some ⟨b, o, none⟩ ∧ F.From w b o
theorem Vo.from_grow {w w' : World} (hb : Below w.heap.size w w') : ∀ (F : Vo) (b o : Nat), F.From w b o → F.From w' b o := by
  intro F
  induction F with
  | nil => intro b o _; trivial
  | cons h a c kids next ih1 ih2 =>
    rintro b o ⟨h1, hk, hc, hh, hn⟩
    refine ⟨h1.grow hb, ?_, hc, hh.grow hb, ih2 _ _ hn⟩
    rcases hk with hk | ⟨b', o', e1, e2⟩
    · exact .inl hk
    · exact .inr ⟨b', o', e1, ih1 _ _ e2⟩
theorem Vo.In.grow {w w' : World} {F : Vo} {a : Option Addr} (hF : F.In w a) (h : Below w.heap.size w w') : F.In w' a := by
  rcases hF with rfl | ⟨b, o, rfl, hF⟩
  · exact .inl rfl
  · exact .inr ⟨b, o, rfl, Vo.from_grow h F b o hF⟩
theorem Vo.from_of_len {F : Vo} {w : World} {a : Option Addr} (hin : F.In w a) {i : Nat} (hi : i < F.len) : ∃ b o, a = some ⟨b, o, none⟩ ∧ F.From w b o := by
  rcases hin with rfl | h
  · exact absurd hi (Nat.not_lt_zero _)
  · exact h
/-- the same but for where they lie -/
def Vo.alike : Vo → Vo → Prop
  | .nil, .nil => True
  | .cons h _ _ kids next, .cons h' _ _ kids' next' => h.same h' ∧ kids.alike kids' ∧ next.alike next'
  | _, _ => False
theorem Vo.alike_nil {F : Vo} (h : F.alike .nil) : F = .nil := by cases F with
  | nil => rfl
  | cons => exact h.elim
theorem Vo.alike_cons {F : Vo} {h : Hd} {a : Option Addr} {c : Nat} {kids next : Vo} (x : F.alike (.cons h a c kids next)) : ∃ h' a' c' kids' next', F = .cons h' a' c' kids' next' ∧ h'.same h ∧ kids'.alike kids ∧ next'.alike next := by
  cases F with
  | nil => exact x.elim
  | cons h' a' c' kids' next' => exact ⟨h', a', c', kids', next', rfl, x.1, x.2.1, x.2.2⟩
theorem Vo.alike_len : ∀ {G F : Vo}, F.alike G → F.len = G.len := by
  intro G
  induction G with
  | nil => intro F h; rw [Vo.alike_nil h]
  | cons h a c kids next _ ih =>
    intro F x
    obtain ⟨h', a', c', kids', next', rfl, _, _, h2⟩ := Vo.alike_cons x
    show next'.len + 1 = next.len + 1
    rw [ih h2]
theorem Vo.alike_size : ∀ {G F : Vo}, F.alike G → F.size = G.size := by
  intro G
  induction G with
  | nil => intro F h; rw [Vo.alike_nil h]
  | cons h a c kids next ih1 ih2 =>
    intro F x
    obtain ⟨h', a', c', kids', next', rfl, _, h1, h2⟩ := Vo.alike_cons x
    show kids'.size + 1 + next'.size = kids.size + 1 + next.size
    rw [ih1 h1, ih2 h2]
theorem Vo.alike_sym : ∀ {G F : Vo}, F.alike G → G.alike F := by
  intro G
  induction G with
  | nil => intro F h; rw [Vo.alike_nil h]; trivial
  | cons h a c kids next ih1 ih2 =>
    intro F x
    obtain ⟨h', a', c', kids', next', rfl, h0, h1, h2⟩ := Vo.alike_cons x
    exact ⟨Hd.same_symm h0, ih1 h1, ih2 h2⟩
theorem Vo.alike_trans : ∀ {G F E : Vo}, F.alike G → G.alike E → F.alike E := by
  intro G
  induction G with
  | nil => intro F E h1 h2; rw [Vo.alike_nil h1]; exact h2
  | cons h a c kids next ih1 ih2 =>
    intro F E x y
    obtain ⟨h', a', c', kids', next', rfl, h0, h3, h4⟩ := Vo.alike_cons x
    cases E with
    | nil => exact y.elim
    | cons h2 a2 c2 kids2 next2 => exact ⟨Hd.same_trans h0 y.1, ih1 h3 y.2.1, ih2 h4 y.2.2⟩
/-- the lists and names below lie in such blocks only -/
def Hd.Blk (P : Nat → Prop) (h : Hd) : Prop := h.ns = [] ∨ ∃ b o, h.na = some ⟨b, o, none⟩ ∧ P b
def Vo.Blk (P : Nat → Prop) : Vo → Prop
  | .nil => True
  | .cons h a _ kids next => h.Blk P ∧ (kids = .nil ∨ ∃ b' o', a = some ⟨b', o', none⟩ ∧ P b') ∧ kids.Blk P ∧ next.Blk P
theorem Hd.Blk.mono {P Q : Nat → Prop} (h : ∀ b, P b → Q b) {x : Hd} (y : x.Blk P) : x.Blk Q := by
  rcases y with y | ⟨b, o, e1, e2⟩
  · exact .inl y
  · exact .inr ⟨b, o, e1, h _ e2⟩
theorem Vo.Blk.mono {P Q : Nat → Prop} (h : ∀ b, P b → Q b) : ∀ {F : Vo}, F.Blk P → F.Blk Q := by
  intro F
  induction F with
  | nil => exact fun _ => trivial
  | cons hd a c kids next ih1 ih2 =>
    rintro ⟨hh, h0, h1, h2⟩
    refine ⟨hh.mono h, ?_, ih1 h1, ih2 h2⟩
    rcases h0 with h0 | ⟨b', o', e1, e2⟩
    · exact .inl h0
    · exact .inr ⟨b', o', e1, h _ e2⟩
theorem Hd.In.agree {P : Nat → Prop} {w w' : World} (h : ∀ b o v, P b → w.cell? ⟨b, o, none⟩ = some v → w'.cell? ⟨b, o, none⟩ = some v) {x : Hd} (y : x.Blk P) (z : x.In w) : x.In w' := by
  refine ⟨?_, z.2⟩
  rcases z.1 with z | ⟨b, o, e1, e2⟩
  · exact .inl z
  · rcases y with y | ⟨b', o', e3, e4⟩
    · exact .inl y
    · rw [e1] at e3
      cases e3
      exact .inr ⟨b, o, e1, e2.agree h e4⟩
theorem Vo.from_agree {P : Nat → Prop} {w w' : World} (h : ∀ b o v, P b → w.cell? ⟨b, o, none⟩ = some v → w'.cell? ⟨b, o, none⟩ = some v) : ∀ (F : Vo) (b o : Nat), P b → F.Blk P → F.From w b o → F.From w' b o := by
  intro F
  induction F with
  | nil => intro b o _ _ _; trivial
  | cons hd a c kids next ih1 ih2 =>
    rintro b o hb ⟨hh, h0, hb1, hb2⟩ ⟨h1, hk, hc, hi, hn⟩
    refine ⟨h1.mono fun o' u hu => h _ _ _ hb hu, ?_, hc, hi.agree h hh, ih2 _ _ hb hb2 hn⟩
    rcases hk with hk | ⟨b', o', e1, e2⟩
    · exact .inl hk
    · rcases h0 with h0 | ⟨b'', o'', e3, e4⟩
      · exact .inl h0
      · rw [e1] at e3
        cases e3
        exact .inr ⟨b', o', e1, ih1 _ _ e4 hb1 e2⟩
/-- from cell o of block nb on lies a value like this one -/
def VCop (P : Nat → Prop) (w : World) (nb o : Nat) (h : Hd) (kids : Vo) : Prop :=
  ∃ (h' : Hd) (a' : Option Addr) (c' : Nat) (kids' : Vo), Cells6 w nb o h' (.slice a' kids'.len c') ∧ (kids' = .nil ∨ ∃ b' o', a' = some ⟨b', o', none⟩ ∧ P b' ∧ kids'.From w b' o') ∧ kids'.Blk P ∧ kids'.alike kids ∧ (kids'.len ≤ c' ∧ c' ≤ maxLen) ∧ h'.In w ∧ h'.Blk P ∧ h'.same h
theorem VCop.agree {P : Nat → Prop} {w w' : World} {nb o : Nat} {h : Hd} {kids : Vo} (x : VCop P w nb o h kids) (hP : ∀ b o v, P b → w.cell? ⟨b, o, none⟩ = some v → w'.cell? ⟨b, o, none⟩ = some v)
    (hnb : ∀ q v, q < 6 → w.cell? ⟨nb, o + q, none⟩ = some v → w'.cell? ⟨nb, o + q, none⟩ = some v) : VCop P w' nb o h kids := by
  obtain ⟨h', a', c', kids', ⟨h1, h2, h3, h4, h5, h6⟩, hk, hB, hA, hc, hi, hb, hs⟩ := x
  refine ⟨h', a', c', kids', ⟨hnb 0 _ (by omega) h1, hnb 1 _ (by omega) h2, hnb 2 _ (by omega) h3, hnb 3 _ (by omega) h4, hnb 4 _ (by omega) h5, hnb 5 _ (by omega) h6⟩, ?_, hB, hA, hc, hi.agree hP hb, hb, hs⟩
  rcases hk with hk | ⟨b', o', e1, e2, e3⟩
  · exact .inl hk
  · exact .inr ⟨b', o', e1, e2, Vo.from_agree hP kids' b' o' e2 hB e3⟩
/-- the first j of a list are copied -/
def VPre (P : Nat → Prop) (w : World) (nb : Nat) : Vo → Nat → Nat → Prop
  | _, _, 0 => True
  | .nil, _, _ + 1 => True
  | .cons h _ _ kids next, o, j + 1 => VCop P w nb o h kids ∧ VPre P w nb next (o + 6) j
theorem VPre.agree {P : Nat → Prop} {w w' : World} {nb : Nat} (hP : ∀ b o v, P b → w.cell? ⟨b, o, none⟩ = some v → w'.cell? ⟨b, o, none⟩ = some v) :
    ∀ (F : Vo) (o j : Nat), (∀ o' v, o' < o + 6 * j → w.cell? ⟨nb, o', none⟩ = some v → w'.cell? ⟨nb, o', none⟩ = some v) → VPre P w nb F o j → VPre P w' nb F o j := by
  intro F
  induction F with
  | nil => intro o j _ _; cases j <;> trivial
  | cons h a c kids next _ ih =>
    intro o j hnb x
    cases j with
    | zero => trivial
    | succ j =>
      obtain ⟨h1, h2⟩ := x
      exact ⟨h1.agree hP (fun q v hq => hnb _ v (by omega)), ih _ _ (fun o' v ho => hnb o' v (by omega)) h2⟩
def Vo.drop : Vo → Nat → Vo
  | F, 0 => F
  | .nil, _ + 1 => .nil
  | .cons _ _ _ _ next, j + 1 => next.drop j
theorem Vo.drop_next : ∀ {F : Vo} {j : Nat} {h : Hd} {a : Option Addr} {c : Nat} {kids next : Vo}, F.drop j = .cons h a c kids next → F.drop (j + 1) = next := by
  intro F
  induction F with
  | nil => intro j; cases j <;> intro h a c kids next x <;> cases x
  | cons h0 a0 c0 kids0 next0 _ ih =>
    intro j h a c kids next x
    cases j with
    | zero => cases x; show next0.drop 0 = next0; cases next0 <;> rfl
    | succ j => exact ih x
theorem VPre.snoc {P : Nat → Prop} {w : World} {nb : Nat} : ∀ {F : Vo} {o j : Nat} {h : Hd} {a : Option Addr} {c : Nat} {kids next : Vo}, F.drop j = .cons h a c kids next → VPre P w nb F o j → VCop P w nb (o + 6 * j) h kids → VPre P w nb F o (j + 1) := by
  intro F
  induction F with
  | nil => intro o j; cases j <;> intro h a c kids next x <;> cases x
  | cons h0 a0 c0 kids0 next0 _ ih =>
    intro o j h a c kids next x hp hc
    cases j with
    | zero =>
      cases x
      refine ⟨by simpa using hc, ?_⟩
      unfold VPre; trivial
    | succ j =>
      obtain ⟨h1, h2⟩ := hp
      refine ⟨h1, ih x h2 ?_⟩
      rw [show o + 6 + 6 * j = o + 6 * (j + 1) by omega]; exact hc
/-- all are copied: there lies a list like it -/
theorem VPre.done {P : Nat → Prop} {w : World} {nb : Nat} : ∀ (F : Vo) (o j : Nat), F.len ≤ j → VPre P w nb F o j → ∃ F' : Vo, F'.alike F ∧ F'.Blk P ∧ F'.From w nb o := by
  intro F
  induction F with
  | nil => intro o j _ _; exact ⟨.nil, trivial, trivial, trivial⟩
  | cons h a c kids next _ ih =>
    intro o j hj x
    have hj' : next.len + 1 ≤ j := hj
    obtain ⟨j, rfl⟩ : ∃ i, j = i + 1 := ⟨j - 1, by omega⟩
    obtain ⟨⟨h', a', c', kids', hcells, hk, hB, hA, hc, hi, hb, hs⟩, h2⟩ := x
    obtain ⟨next', hA2, hB2, hF2⟩ := ih (o + 6) j (by omega) h2
    refine ⟨.cons h' a' c' kids' next', ⟨hs, hA, hA2⟩, ⟨hb, ?_, hB, hB2⟩, hcells, ?_, hc, hi, hF2⟩
    · rcases hk with hk | ⟨b', o', e1, e2, _⟩
      · exact .inl hk
      · exact .inr ⟨b', o', e1, e2⟩
    · rcases hk with hk | ⟨b', o', e1, _, e3⟩
      · exact .inl hk
      · exact .inr ⟨b', o', e1, e3⟩
/-- what stands at a place of a list -/
def Vo.hdAt : Vo → Nat → Hd
  | .nil, _ => ⟨0, 0, 0, ⟨#[]⟩, none, 0, []⟩
  | .cons h _ _ _ _, 0 => h
  | .cons _ _ _ _ next, i + 1 => next.hdAt i
def Vo.addrAt : Vo → Nat → Option Addr
  | .nil, _ => none
  | .cons _ a _ _ _, 0 => a
  | .cons _ _ _ _ next, i + 1 => next.addrAt i
def Vo.capAt : Vo → Nat → Nat
  | .nil, _ => 0
  | .cons _ _ c _ _, 0 => c
  | .cons _ _ _ _ next, i + 1 => next.capAt i
def Vo.kidsAt : Vo → Nat → Vo
  | .nil, _ => .nil
  | .cons _ _ _ kids _, 0 => kids
  | .cons _ _ _ _ next, i + 1 => next.kidsAt i
theorem Vo.from_at : ∀ {F : Vo} {w : World} {b o i : Nat}, F.From w b o → i < F.len →
    Cells6 w b (o + i * 6) (F.hdAt i) (.slice (F.addrAt i) (F.kidsAt i).len (F.capAt i)) ∧ (F.kidsAt i).In w (F.addrAt i) ∧ ((F.kidsAt i).len ≤ F.capAt i ∧ F.capAt i ≤ maxLen) ∧ (F.hdAt i).In w := by
  intro F
  induction F with
  | nil => intro w b o i _ h; exact absurd h (Nat.not_lt_zero _)
  | cons h a c kids next _ ih =>
    rintro w b o i ⟨hc, hk, h1, h2, hn⟩ hi
    cases i with
    | zero => simp only [Nat.zero_mul, Nat.add_zero]; exact ⟨hc, hk, h1, h2⟩
    | succ i =>
      have := ih hn (show i < next.len from Nat.lt_of_succ_lt_succ hi)
      rw [show o + 6 + i * 6 = o + (i + 1) * 6 by omega] at this
      exact this
theorem Vo.size_at : ∀ {F : Vo} {i : Nat}, i < F.len → (F.kidsAt i).size < F.size := by
  intro F
  induction F with
  | nil => intro i h; exact absurd h (Nat.not_lt_zero _)
  | cons h a c kids next _ ih =>
    intro i hi
    cases i with
    | zero => show kids.size < kids.size + 1 + next.size; omega
    | succ i => have := ih (show i < next.len from Nat.lt_of_succ_lt_succ hi); show (next.kidsAt i).size < kids.size + 1 + next.size; omega
end Go.Proofs.Ytbbbmmemfndnlaa
/- Values: a list of values as cells one behind the other, and what lies below them. -/
namespace Go.Proofs.Ytbbbmmemfndnlaa
open Go.RowKit
/-- the six cells of a value -/
def six (h : Hd) (a : Option Addr) (n c : Nat) : List Value := [.int .i64 h.k, .int .i64 h.m, .int .i64 h.e, .string h.t, .slice a n c, .slice h.na h.ns.length h.nc]
theorem six_length (h : Hd) (a : Option Addr) (n c : Nat) : (six h a n c).length = 6 := rfl
def Vo.cells : Vo → List Value
  | .nil => []
  | .cons h a c kids next => six h a kids.len c ++ next.cells
/-- what is in the values of a list lies there -/
def Vo.Kin (w : World) : Vo → Prop
  | .nil => True
  | .cons h a c kids next => (kids = .nil ∨ ∃ b' o', a = some ⟨b', o', none⟩ ∧ kids.From w b' o') ∧ (kids.len ≤ c ∧ c ≤ maxLen) ∧ h.In w ∧ next.Kin w
theorem Vo.from_iff : ∀ {F : Vo} {w : World} {b o : Nat}, F.From w b o ↔ ((∀ i v, F.cells[i]? = some v → w.cell? ⟨b, o + i, none⟩ = some v) ∧ F.Kin w) := by
  intro F
  induction F with
  | nil => intro w b o; exact ⟨fun _ => ⟨fun i v h => (by simp [Vo.cells] at h), trivial⟩, fun _ => trivial⟩
  | cons h a c kids next _ ih =>
    intro w b o
    have hc : ∀ i, (Vo.cons h a c kids next).cells[i + 6]? = next.cells[i]? := fun i => by
      show (six h a kids.len c ++ next.cells)[i + 6]? = _
      rw [List.getElem?_append_right (by rw [six_length]; omega)]; simp [six_length]
    have hl : ∀ i, i < 6 → (Vo.cons h a c kids next).cells[i]? = (six h a kids.len c)[i]? := fun i hi => by
      show (six h a kids.len c ++ next.cells)[i]? = _
      rw [List.getElem?_append_left (by rw [six_length]; omega)]
    constructor
    · rintro ⟨⟨h0, h1, h2, h3, h4, h5⟩, hk, hcc, hh, hn⟩
      obtain ⟨n1, n2⟩ := ih.1 hn
      refine ⟨fun i v hv => ?_, hk, hcc, hh, n2⟩
      by_cases hi : i < 6
      · rw [hl i hi] at hv
        have : i = 0 ∨ i = 1 ∨ i = 2 ∨ i = 3 ∨ i = 4 ∨ i = 5 := by omega
        rcases this with rfl | rfl | rfl | rfl | rfl | rfl
        all_goals (simp [six] at hv; subst hv; assumption)
      · obtain ⟨i, rfl⟩ : ∃ j, i = j + 6 := ⟨i - 6, by omega⟩
        rw [hc] at hv
        have := n1 i v hv
        rw [show o + (i + 6) = o + 6 + i by omega]; exact this
    · rintro ⟨h1, hk, hcc, hh, hn⟩
      refine ⟨⟨h1 0 _ (hl 0 (by omega)), h1 1 _ (hl 1 (by omega)), h1 2 _ (hl 2 (by omega)), h1 3 _ (hl 3 (by omega)), h1 4 _ (hl 4 (by omega)), h1 5 _ (hl 5 (by omega))⟩, hk, hcc, hh, ih.2 ⟨fun i v hv => ?_, hn⟩⟩
      rw [← hc] at hv
      have := h1 _ v hv
      rw [show o + 6 + i = o + (i + 6) by omega]; exact this
end Go.Proofs.Ytbbbmmemfndnlaa
/- Values: cells that lie somewhere, put behind a slice that is owned; a value put into an object: mathematics. -/
namespace Go.Proofs.Ytbbbmmemfndnlaa
open Go.RowKit
/-- these cells lie where a slice begins -/
def Lies (w : World) (a : Option Addr) (L : List Value) : Prop := L = [] ∨ ∃ b o, a = some ⟨b, o, none⟩ ∧ ∀ i v, L[i]? = some v → w.cell? ⟨b, o + i, none⟩ = some v
theorem Lies.grow {w w' : World} {a : Option Addr} {L : List Value} (h : Lies w a L) (hb : Below w.heap.size w w') : Lies w' a L := by
  rcases h with h | ⟨b, o, e1, e2⟩
  · exact .inl h
  · exact .inr ⟨b, o, e1, fun i v hv => (hb.cell (p := ⟨b, o + i, none⟩) (World.block_lt_of_cell? w _ (e2 i v hv))).trans (e2 i v hv)⟩
theorem Vo.In.lies {F : Vo} {w : World} {a : Option Addr} (h : F.In w a) : Lies w a F.cells := by
  rcases h with rfl | ⟨b, o, e, h⟩
  · exact .inl rfl
  · exact .inr ⟨b, o, e, (Vo.from_iff.1 h).1⟩
theorem Lies.in {F : Vo} {w : World} {a : Option Addr} (h : Lies w a F.cells) (hk : F.Kin w) : F.In w a := by
  rcases h with h | ⟨b, o, e, h⟩
  · left
    cases F with
    | nil => rfl
    | cons h0 a0 c0 kids next => exact absurd h (by simp [Vo.cells, six])
  · exact .inr ⟨b, o, e, Vo.from_iff.2 ⟨h, hk⟩⟩
/-- texts as cells -/
def texts (ss : List ByteArray) : List Value := ss.map Value.string
theorem texts_length (ss : List ByteArray) : (texts ss).length = ss.length := List.length_map _
theorem texts_one {ss : List ByteArray} : ∀ u ∈ texts ss, u.oneCell' = true := by
  intro u hu
  obtain ⟨s, _, rfl⟩ := List.mem_map.1 hu
  rfl
theorem sfrom_iff : ∀ {ss : List ByteArray} {w : World} {b o : Nat}, SFrom w ss b o ↔ ((∀ i v, (texts ss)[i]? = some v → w.cell? ⟨b, o + i, none⟩ = some v) ∧ ∀ s ∈ ss, s.size ≤ maxLen) := by
  intro ss w b o
  constructor
  · intro h
    constructor
    · intro i v hv
      rw [texts, List.getElem?_map] at hv
      obtain ⟨s, hs, rfl⟩ := Option.map_eq_some_iff.1 hv
      exact (h.at hs).1
    · intro s hs
      obtain ⟨i, hi⟩ := List.getElem?_of_mem hs
      exact (h.at hi).2
  · rintro ⟨h1, h2⟩
    exact SFrom.of fun i s hi => ⟨h1 i _ (by rw [texts, List.getElem?_map, hi]; rfl), h2 s (List.mem_of_getElem? hi)⟩
theorem SIn.lies {ss : List ByteArray} {w : World} {a : Option Addr} (h : SIn w ss a) : Lies w a (texts ss) ∧ ∀ s ∈ ss, s.size ≤ maxLen := by
  rcases h with rfl | ⟨b, o, e, h⟩
  · exact ⟨.inl rfl, fun s hs => by cases hs⟩
  · exact ⟨.inr ⟨b, o, e, (sfrom_iff.1 h).1⟩, (sfrom_iff.1 h).2⟩
theorem Lies.sin {ss : List ByteArray} {w : World} {a : Option Addr} (h : Lies w a (texts ss)) (hs : ∀ s ∈ ss, s.size ≤ maxLen) : SIn w ss a := by
  rcases h with h | ⟨b, o, e, h⟩
  · left
    cases ss with
    | nil => rfl
    | cons s t => exact absurd h (by simp [texts])
  · exact .inr ⟨b, o, e, sfrom_iff.2 ⟨h, hs⟩⟩
theorem own_lies {W : World} {base size : Nat} {e : TypeId} {v : Value} {n : Nat} {xs : List Value} (hown : W.ownsRow base e size v n xs) :
    ∃ a c, v = .slice a n c ∧ Lies W a xs ∧ (n ≤ c ∧ c ≤ maxLen) ∧ (n = 0 ∨ ∃ b, a = some ⟨b, 0, none⟩ ∧ v.ownBlock = some b ∧ base ≤ b) := by
  have hl := hown.1
  rcases hown.2 with ⟨rfl, h0⟩ | ⟨g, cap, cur, rfl, h1, h2, h3, h4, _⟩
  · subst h0
    exact ⟨none, 0, rfl, .inl (List.eq_nil_of_length_eq_zero (by rw [hl]; omega)), ⟨Nat.le_refl _, by unfold maxLen; omega⟩, .inl rfl⟩
  · refine ⟨some ⟨g, 0, none⟩, cap, rfl, .inr ⟨g, 0, rfl, fun i u hi => ?_⟩, ⟨h3, h4⟩, .inr ⟨g, rfl, rfl, h1⟩⟩
    have hl2 : i < n * size := by rw [← hl]; exact (List.getElem?_eq_some_iff.1 hi).1
    rw [Nat.zero_add, hown.cellAt i hl2]; exact hi
/-- what is appended lies where a slice begins -/
def Src (w : World) (a : Option Addr) (m : Nat) (ys : List Value) : Prop := m = 0 ∨ ∃ ad, a = some ad ∧ ∀ j u, ys[j]? = some u → w.cell? (ad.add j) = some u
theorem addr_add (b o n : Nat) : (⟨b, o, none⟩ : Addr).add n = ⟨b, o + n, none⟩ := by
  unfold Addr.add
  split
  · next h => subst h; rfl
  · rfl
theorem Lies.nil_of {w : World} {a : Option Addr} {L : List Value} (h : Lies w a L) {sz n : Nat} (hl : L.length = n * sz) (hz : 0 < sz) : n = 0 ∨ ∃ b o, a = some ⟨b, o, none⟩ ∧ ∀ i v, L[i]? = some v → w.cell? ⟨b, o + i, none⟩ = some v := by
  rcases h with h | h
  · left
    subst h
    have hz2 : n * sz = 0 := by simpa using hl.symm
    rcases Nat.mul_eq_zero.1 hz2 with h1 | h1 <;> omega
  · exact .inr h
theorem Lies.src {w : World} {a : Option Addr} {L : List Value} (h : Lies w a L) {sz n : Nat} (hl : L.length = n * sz) (hz : 0 < sz) : Src w a n L := by
  rcases h.nil_of hl hz with h0 | ⟨b, o, rfl, h2⟩
  · exact .inl h0
  · exact .inr ⟨_, rfl, fun j u hj => by rw [addr_add]; exact h2 j u hj⟩
theorem Lies.take0 {w : World} {a : Option Addr} {L : List Value} (h : Lies w a L) {sz n : Nat} (hl : L.length = n * sz) (hz : 0 < sz) (k : Nat) (hk : k ≤ n) : Src w a k (L.take (k * sz)) := by
  rcases h.nil_of hl hz with h0 | ⟨b, o, rfl, h2⟩
  · exact .inl (by omega)
  · refine .inr ⟨⟨b, o, none⟩, rfl, fun j u hj => ?_⟩
    rw [addr_add]
    refine h2 j u ?_
    rw [List.getElem?_take] at hj
    split at hj
    · exact hj
    · cases hj
theorem Lies.drop {w : World} {a : Option Addr} {L : List Value} (h : Lies w a L) {sz n : Nat} (hl : L.length = n * sz) (hz : 0 < sz) (k c : Nat) (hn : n ≤ c) : Src w (if c = k then a else a.map (·.add (k * sz))) (n - k) (L.drop (k * sz)) := by
  rcases h.nil_of hl hz with h0 | ⟨b, o, rfl, h2⟩
  · exact .inl (by omega)
  · by_cases hc : c = k
    · exact .inl (by omega)
    · refine .inr ⟨⟨b, o + k * sz, none⟩, ?_, fun j u hj => ?_⟩
      · rw [if_neg hc, Option.map_some, addr_add]
      · rw [addr_add, Nat.add_assoc]
        exact h2 _ u (by rw [List.getElem?_drop] at hj; exact hj)
section
variable {P : Program}
theorem run_append_lie (w : World) (base : Nat) (t ty e : TypeId) (i : TypeInfo) (z : Value) (size bytes : Nat) (ht : P.underlying t = some (.slice e)) (hi : P.info? e = some i) (hz : i.zero = some z)
    (hsize : i.size = size) (hby : i.bytes = bytes) (hzs : z.cells.size = size) (hsz : 0 < size)
    (v : Value) (n : Nat) (xs : List Value) (hown : w.ownsRow base e size v n xs)
    (a : Option Addr) (m c : Nat) (news : List Value) (hl : news.length = m * size) (hnews : Src w a m news) (h1 : ∀ u ∈ news, u.oneCell' = true)
    (h63 : n + m ≤ maxLen) (hbytes : (n + m) * bytes ≤ 140737488355328) (hbase : base ≤ w.heap.size) :
    ∃ v' w', (Builtin.append_ #[t, t] ty #[v, .slice a m c]).run P w = .ok v' w' ∧ w'.ownsRow base e size v' (n + m) (xs ++ news) ∧ w.grownBy w' v.ownBlock ∧ (v'.ownBlock = v.ownBlock ∨ v'.ownBlock = some w.heap.size) := by
  cases a with
  | none =>
    have hm : m = 0 := by
      rcases hnews with h | ⟨ad, h, _⟩
      · exact h
      · cases h
    subst hm
    have hy : news = [] := List.eq_nil_of_length_eq_zero (by rw [hl, Nat.zero_mul])
    subst hy
    refine ⟨v, w, ?_, by simpa using hown, ⟨rfl, rfl, rfl, Nat.le_refl _, fun _ _ _ => rfl⟩, .inl rfl⟩
    rcases hown.2 with ⟨rfl, rfl⟩ | ⟨g, cap, cur, rfl, _, _, hnc, _⟩
    · simp [Builtin.append_, run_underlying ht, sizeOf, typeInfo, hi, Builtin.lenOf, Builtin.firstCells]
    · simp [Builtin.append_, run_underlying ht, sizeOf, typeInfo, hi, Builtin.lenOf, Builtin.firstCells, hnc, storeCells]
  | some ad =>
    obtain ⟨v', w', hr, h2, h3, _, h5⟩ := run_append_own_at (P := P) w base t ty e i z size bytes ht hi hz hsize hby hzs hsz v n xs hown ad m c news hl (fun j u hj => by
      rcases hnews with h | ⟨ad', h, h2⟩
      · subst h
        have : news = [] := List.eq_nil_of_length_eq_zero (by rw [hl, Nat.zero_mul])
        subst this
        cases hj
      · cases h
        exact h2 j u hj) h1 h63 hbytes hbase
    exact ⟨v', w', hr, h2, h3, h5⟩
theorem wp_append_lie {o : Oper} {a : Act} {K : Act → World → Prop} {Q : Exit → Act → World → Prop} (w : World) (s x : Operand) (t : TypeId)
    (ho : o.op = .call { callee := .builtin .append, args := #[s, x], argTypes := #[t, t] })
    (base : Nat) (e : TypeId) (i : TypeInfo) (z : Value) (size bytes : Nat) (ht : P.underlying t = some (.slice e)) (hi : P.info? e = some i) (hz : i.zero = some z)
    (hsize : i.size = size) (hby : i.bytes = bytes) (hzs : z.cells.size = size) (hsz : 0 < size)
    (v : Value) (n : Nat) (xs : List Value) (hs : a.eval s = v) (hown : w.ownsRow base e size v n xs) (ad : Option Addr) (m c : Nat) (news : List Value) (hx : a.eval x = .slice ad m c)
    (hl : news.length = m * size) (hnews : Src w ad m news) (h1 : ∀ u ∈ news, u.oneCell' = true) (h63 : n + m ≤ maxLen) (hbytes : (n + m) * bytes ≤ 140737488355328) (hbase : base ≤ w.heap.size)
    (h : ∀ v' w', w'.ownsRow base e size v' (n + m) (xs ++ news) → w.grownBy w' v.ownBlock → (v'.ownBlock = v.ownBlock ∨ v'.ownBlock = some w.heap.size) → K (a.put o.dst v') w') : o.wp P a w K Q := by
  obtain ⟨v', w', hr, h2, h3, h4⟩ := run_append_lie (P := P) w base t o.type e i z size bytes ht hi hz hsize hby hzs hsz v n xs hown ad m c news hl hnews h1 h63 hbytes hbase
  unfold Oper.wp execOp
  simp only [ho, resolve, invoke, builtin, Sem.run_bind, Sem.run_pure, Result.andThen_ok, List.map_toArray, List.map_cons, List.map_nil, hs, hx, hr]
  exact h v' w' h2 h3 h4
end
theorem below_grown {B : Nat} {w W1 W2 : World} {e : TypeId} {size : Nat} {v : Value} {n : Nat} {xs : List Value} (hB : Below B w W1) (hown : W1.ownsRow B e size v n xs) (hg : W1.grownBy W2 v.ownBlock) (hz : B ≤ W1.heap.size) : Below B w W2 :=
  hB.grown hg hz (fun k hk => (hown.lt k hk).1)
/-- where a name goes -/
def plc (s : ByteArray) : List ByteArray → Nat
  | [] => 0
  | x :: t => if Op.bytesLess x.toList s.toList then plc s t + 1 else 0
theorem plc_le (s : ByteArray) (ss : List ByteArray) : plc s ss ≤ ss.length := by
  induction ss with
  | nil => exact Nat.le_refl _
  | cons x t ih => unfold plc; split <;> simp <;> omega
/-- a name put among others -/
def insN (s : ByteArray) (ss : List ByteArray) : List ByteArray := ss.take (plc s ss) ++ s :: ss.drop (plc s ss)
def Vo.take : Vo → Nat → Vo
  | _, 0 => .nil
  | .nil, _ + 1 => .nil
  | .cons h a c kids next, k + 1 => .cons h a c kids (next.take k)
end Go.Proofs.Ytbbbmmemfndnlaa
/- A block's cells, that may be written, as a list of values. -/
namespace Go.Proofs.Ytbbbmmemfndnlaa
open Go.RowKit
attribute [local go_sem] cell_alloc_is frozen_alloc_is
/-- block b has these cells at its beginning, and they may be written -/
def Row (w : World) (b : Nat) (vs : List Value) : Prop := ∀ i v, vs[i]? = some v → w.cell? ⟨b, i, none⟩ = some v ∧ w.frozen? ⟨b, i, none⟩ = false
theorem Row.new (w : World) (vs : List Value) (T : TypeId) : Row (w.alloc (.cells vs.toArray T)) w.heap.size vs := by
  intro i v hi
  refine ⟨?_, by simp⟩
  rw [World.cell?_alloc_new]
  simpa using hi
theorem Row.lt {w : World} {b : Nat} {v : Value} {vs : List Value} (h : Row w b (v :: vs)) : b < w.heap.size := World.block_lt_of_cell? w _ (h 0 v rfl).1
theorem Row.below {B : Nat} {w w' : World} {b : Nat} {vs : List Value} (h : Row w b vs) (hb : Below B w w') (hB : b < B) : Row w' b vs := fun i v hi =>
  ⟨(hb.cell (p := ⟨b, i, none⟩) hB).trans (h i v hi).1, (hb.frozen (p := ⟨b, i, none⟩) hB).trans (h i v hi).2⟩
theorem Row.setOther {w : World} {b : Nat} {vs : List Value} (h : Row w b vs) {j : Nat} (hj : ¬ b = j) (o : Nat) (u : Value) : Row (w.setCell ⟨j, o, none⟩ u) b vs := fun i v hi =>
  ⟨(World.cell?_setCell_other _ _ _ _ (fun e => hj (by simpa using congrArg Addr.block e.symm))).trans (h i v hi).1, by simpa using (h i v hi).2⟩
theorem Row.set {w : World} {b : Nat} {vs : List Value} (h : Row w b vs) {i : Nat} (hi : i < vs.length) (u : Value) : Row (w.setCell ⟨b, i, none⟩ u) b (vs.set i u) := by
  intro j v hj
  rw [List.getElem?_set] at hj
  by_cases e : i = j
  · subst e
    rw [if_pos rfl, if_pos hi] at hj
    cases hj
    have h0 := h i (vs[i]) (List.getElem?_eq_getElem hi)
    exact ⟨set_near ⟨_, h0.1⟩, by simpa using h0.2⟩
  · rw [if_neg e] at hj
    have h0 := h j v hj
    exact ⟨(set_far e).trans h0.1, by simpa using h0.2⟩
/-- block nb has so many cells, and they may be written -/
def RoomN (w : World) (nb n : Nat) : Prop := ∀ o, o < n → (∃ v, w.cell? ⟨nb, o, none⟩ = some v) ∧ w.frozen? ⟨nb, o, none⟩ = false
theorem RoomN.grow {w w' : World} {nb n : Nat} (h : RoomN w nb n) (hb : Below w.heap.size w w') : RoomN w' nb n := by
  intro o ho
  obtain ⟨⟨v, h1⟩, h2⟩ := h o ho
  have hl := World.block_lt_of_cell? w _ h1
  exact ⟨⟨v, (hb.cell (p := ⟨nb, o, none⟩) hl).trans h1⟩, (hb.frozen (p := ⟨nb, o, none⟩) hl).trans h2⟩
theorem RoomN.set {w : World} {nb n : Nat} (h : RoomN w nb n) (b o : Nat) (v : Value) : RoomN (w.setCell ⟨b, o, none⟩ v) nb n := by
  intro o' ho
  obtain ⟨h1, h2⟩ := h o' ho
  refine ⟨?_, by simpa using h2⟩
  obtain ⟨u, hu⟩ := h1
  exact cell?_setCell_some hu
end Go.Proofs.Ytbbbmmemfndnlaa
/- Lists of texts: the laws' measure, copy and comparison, and slices.Equal. -/
namespace Go.Proofs.Ytbbbmmemfndnlaa
open Go.RowKit
attribute [local go_sem] cell_alloc_is frozen_alloc_is
end Go.Proofs.Ytbbbmmemfndnlaa
/- Contracts over values: the laws' own copy of a value, in cells that were never shared with a text. -/
namespace Go.Proofs.Ytbbbmmemfndnlaa
open Go.RowKit
/-- a value's names in another place -/
def Hd.to (h : Hd) (b : Nat) : Hd := ⟨h.k, h.m, h.e, h.t, some ⟨b, 0, none⟩, h.ns.length, h.ns⟩
end Go.Proofs.Ytbbbmmemfndnlaa
/- A map of texts and numbers, as it is made of a literal and looked into. -/
namespace Go.Proofs.Ytbbbmmemfndnlaa
open Go.RowKit
/-- the entries of a map, born one after the other -/
def ents : List (ByteArray × Int) → Nat → List MapEntry
  | [], _ => []
  | (s, v) :: t, n => { key := .string s, val := .int .i64 v, born := n } :: ents t (n + 1)
def seek (s : ByteArray) : List (ByteArray × Int) → Nat → Option (Nat × Value)
  | [], _ => none
  | (x, v) :: t, i => if s == x then some (i, .int .i64 v) else seek s t (i + 1)
/-- what stands there, or 0 -/
def seekV (s : ByteArray) : List (ByteArray × Int) → Int
  | [] => 0
  | (x, v) :: t => if s == x then v else seekV s t
theorem findNow_ents (s : ByteArray) : ∀ (L : List (ByteArray × Int)) (n i : Nat), Instr.findNow .string (.string s) (ents L n) i = some (seek s L i) := by
  intro L
  induction L with
  | nil => intro n i; rfl
  | cons p t ih =>
    obtain ⟨x, v⟩ := p
    intro n i
    show (match Instr.sameNow .string (.string s) (.string x) with
      | some true => some (some (i, Value.int .i64 v))
      | some false => Instr.findNow .string (.string s) (ents t (n + 1)) (i + 1)
      | none => none) = some (if s == x then some (i, Value.int .i64 v) else seek s t (i + 1))
    show (match some (s == x) with
      | some true => some (some (i, Value.int .i64 v))
      | some false => Instr.findNow .string (.string s) (ents t (n + 1)) (i + 1)
      | none => none) = some (if s == x then some (i, Value.int .i64 v) else seek s t (i + 1))
    cases h : (s == x)
    · simp [ih]
    · simp
theorem ents_snoc (s : ByteArray) (v : Int) : ∀ (L : List (ByteArray × Int)) (n : Nat), ents (L ++ [(s, v)]) n = ents L n ++ [{ key := .string s, val := .int .i64 v, born := n + L.length }] := by
  intro L
  induction L with
  | nil => intro n; rfl
  | cons p t ih =>
    obtain ⟨x, u⟩ := p
    intro n
    show _ :: ents (t ++ [(s, v)]) (n + 1) = _ :: (ents t (n + 1) ++ _)
    rw [ih (n + 1)]
    simp
    omega
theorem seek_val (s : ByteArray) : ∀ (L : List (ByteArray × Int)) (i : Nat), (match seek s L i with | some (_, v) => v | none => Value.int .i64 0) = Value.int .i64 (seekV s L) := by
  intro L
  induction L with
  | nil => intro i; rfl
  | cons p t ih =>
    obtain ⟨x, v⟩ := p
    intro i
    unfold seek seekV
    cases h : (s == x)
    · simpa using ih (i + 1)
    · simp
/-- block b is that map -/
def IsMap (w : World) (b : Nat) (L : List (ByteArray × Int)) : Prop := w.heap[b]? = some (.map (ents L 0).toArray L.length)
theorem IsMap.grown {w w' : World} {b : Nat} {L : List (ByteArray × Int)} (h : IsMap w b L) (hb : Below w.heap.size w w') : IsMap w' b L := by
  have hlt := (Array.getElem?_eq_some_iff.1 h).1
  exact (hb.block b hlt).trans h
theorem run_insert_new {P : Program} {w : World} {mty kt et : TypeId} {b : Nat} {L : List (ByteArray × Int)} {s : ByteArray} {v : Int} (hm : P.underlying mty = some (.map kt et)) (hk : P.underlying kt = some .string)
    (hb : IsMap w b L) (hf : seek s L 0 = none) :
    (Instr.mapUpdate mty (.map (some b)) (.string s) (.int .i64 v)).run P w = .ok () { w with heap := w.heap.setIfInBounds b (.map (ents (L ++ [(s, v)]) 0).toArray (L ++ [(s, v)]).length) } := by
  have hff : Instr.findNow .string (.string s) (ents L 0).toArray.toList 0 = some none := by rw [List.toList_toArray, findNow_ents, hf]
  have hc : (Instr.checkKey false 10000 kt (.string s)).run P w = .ok () w := MapKept.run_checkKey (k := .string s) hk (by simp [MapKept.IsKey]) false 9999
  have e : (ents (L ++ [(s, v)]) 0).toArray = (ents L 0).toArray.push { key := .string s, val := .int .i64 v, born := L.length } := by rw [ents_snoc]; simp
  rw [e]
  simp [Instr.mapUpdate, run_underlying hm, MapKept.run_getObj_map hb, hc, MapKept.run_findKey hk hff, MapKept.run_setObj_map _ hb, Result.andThen]
theorem run_look {P : Program} {w : World} {mty kt et : TypeId} {b : Nat} {L : List (ByteArray × Int)} {s : ByteArray} (hm : P.underlying mty = some (.map kt et)) (hk : P.underlying kt = some .string)
    (hz : (zeroValue et).run P w = .ok (.int .i64 0) w) (hb : IsMap w b L) :
    (Instr.lookup mty (.map (some b)) (.string s) false).run P w = .ok (.int .i64 (seekV s L)) w := by
  have hff : Instr.findNow .string (.string s) (ents L 0) 0 = some (seek s L 0) := findNow_ents s L 0 0
  have hc : ∀ em, (Instr.checkKey em 10000 kt (.string s)).run P w = .ok () w := fun em => MapKept.run_checkKey (k := .string s) hk (by simp [MapKept.IsKey]) em 9999
  have hv := seek_val s L 0
  cases h : seek s L 0 with
  | none => rw [h] at hv hff; rw [← hv]; simp [Instr.lookup, run_underlying hm, MapKept.run_getObj_map hb, hc, MapKept.run_findKey hk hff, hz]
  | some p => obtain ⟨i, v⟩ := p; rw [h] at hv hff; rw [← hv]; simp [Instr.lookup, run_underlying hm, MapKept.run_getObj_map hb, hc, MapKept.run_findKey hk hff]
theorem beq_list (s : ByteArray) (l : List UInt8) : (s == ⟨l.toArray⟩) = (s.toList == l) := by
  rw [Bool.eq_iff_iff, MapKept.bytes_beq, beq_iff_eq, ByteArray.toList_eq]
  constructor
  · intro h; subst h; simp
  · intro h; subst h; cases s; simp
end Go.Proofs.Ytbbbmmemfndnlaa
/- Maps whose keys are places of lists: when two keys are the same. -/
namespace Go.Proofs.Ytbbbmmemfndnlaa
open Go.RowKit
/-- where a list lies: nowhere, if it is empty -/
abbrev Pl := Option Addr × Nat
/-- where two lists lie -/
abbrev Pl2 := Pl × Pl
/-- a map of keys that can be held against each other -/
structure Keys (K : Type) [DecidableEq K] (P : Program) (kt : TypeId) where
  kv : K → Value
  ok : World → K → Prop
  wide : (match P.underlying kt with | some (.array _ _) | some (.struct _) => true | _ => false) = true
  eq : ∀ w x y, ok w x → ok w y → (Op.equal kt (kv x) (kv y)).run P w = .ok (decide (x = y)) w
  check : ∀ w em x, (Instr.checkKey em 10000 kt (kv x)).run P w = .ok () w
  bits : ∀ x, Instr.sameBits 10000 (kv x) (kv x) = true
section
variable {K : Type} [DecidableEq K] {P : Program} {kt : TypeId} (Q : Keys K P kt)
/-- block b is the map of these keys and values -/
def Keys.Is (w : World) (b : Nat) (L : List (K × Value)) : Prop := ∃ es clock, w.heap[b]? = some (.map es clock) ∧ es.toList.map (fun e => (e.key, e.val)) = L.map (fun p => (Q.kv p.1, p.2))
def seekL (x : K) : List (K × Value) → Nat → Option (Nat × Value)
  | [], _ => none
  | (k, v) :: t, i => if x = k then some (i, v) else seekL x t (i + 1)
def getL (x : K) : List (K × Value) → Option Value
  | [] => none
  | (k, v) :: t => if x = k then some v else getL x t
def putL (x : K) (v : Value) : List (K × Value) → List (K × Value)
  | [] => [(x, v)]
  | (k, u) :: t => if x = k then (x, v) :: t else (k, u) :: putL x v t
theorem seekL_get (x : K) : ∀ (L : List (K × Value)) (i : Nat), (seekL x L i).map Prod.snd = getL x L := by
  intro L
  induction L with
  | nil => intro i; rfl
  | cons p t ih =>
    obtain ⟨k, v⟩ := p
    intro i
    unfold seekL getL
    split
    · rfl
    · exact ih (i + 1)
theorem getL_put (x y : K) (v : Value) : ∀ (L : List (K × Value)), getL y (putL x v L) = if y = x then some v else getL y L := by
  intro L
  induction L with
  | nil => unfold putL getL; split <;> simp_all [getL]
  | cons p t ih =>
    obtain ⟨k, u⟩ := p
    unfold putL
    by_cases h : x = k
    · subst h
      rw [if_pos rfl]
      show (if y = x then some v else getL y t) = if y = x then some v else (if y = x then some u else getL y t)
      by_cases h2 : y = x <;> simp [h2]
    · rw [if_neg h]
      show (if y = k then some u else getL y (putL x v t)) = if y = x then some v else (if y = k then some u else getL y t)
      rw [ih]
      by_cases h2 : y = k
      · subst h2; rw [if_pos rfl, if_neg (fun e => h e.symm), if_pos rfl]
      · rw [if_neg h2, if_neg h2]
theorem Keys.asking (w : World) (x : K) (hx : Q.ok w x) : ∀ (L : List (K × Value)) (es : List MapEntry) (i : Nat), (∀ p ∈ L, Q.ok w p.1) → es.map (fun e => (e.key, e.val)) = L.map (fun p => (Q.kv p.1, p.2)) → (Instr.findAsking kt (Q.kv x) es i).run P w = .ok (seekL x L i) w := by
  intro L
  induction L with
  | nil =>
    intro es i _ h
    have : es = [] := by cases es with | nil => rfl | cons e es => simp at h
    subst this
    simp [Instr.findAsking, seekL]
  | cons p t ih =>
    obtain ⟨k, v⟩ := p
    intro es i hok h
    cases es with
    | nil => simp at h
    | cons e es =>
      simp only [List.map_cons, List.cons.injEq, Prod.mk.injEq] at h
      obtain ⟨⟨h1, h2⟩, h3⟩ := h
      have he := Q.eq w x k hx (hok (k, v) List.mem_cons_self)
      rw [← h1] at he
      have hi := ih es (i + 1) (fun p hp => hok p (List.mem_cons_of_mem _ hp)) h3
      by_cases hk : x = k
      · subst hk
        rw [decide_eq_true rfl] at he
        simp [Instr.findAsking, he, seekL, h2]
      · have hd : decide (x = k) = false := decide_eq_false hk
        rw [hd] at he
        simp [Instr.findAsking, he, seekL, hk, hi]
theorem Keys.find (w : World) (x : K) (hx : Q.ok w x) (L : List (K × Value)) (es : List MapEntry) (hok : ∀ p ∈ L, Q.ok w p.1) (h : es.map (fun e => (e.key, e.val)) = L.map (fun p => (Q.kv p.1, p.2))) :
    (Instr.findKey kt (Q.kv x) es).run P w = .ok (seekL x L 0) w := by
  rw [run_findKey_eq w Q.wide]
  exact Q.asking w x hx L es 0 hok h
theorem Keys.look {mty et : TypeId} (hm : P.underlying mty = some (.map kt et)) {w : World} {b : Nat} {L : List (K × Value)} (x : K) (hx : Q.ok w x) (hok : ∀ p ∈ L, Q.ok w p.1) (hb : Q.Is w b L) {z : Value} (hz : (zeroValue et).run P w = .ok z w) :
    (Instr.lookup mty (.map (some b)) (Q.kv x) false).run P w = .ok ((getL x L).getD z) w := by
  obtain ⟨es, clock, hh, he⟩ := hb
  have hf := Q.find w x hx L es.toList hok he
  have hg := seekL_get x L 0
  cases h : seekL x L 0 with
  | none => rw [h] at hf hg; rw [← hg]; simp [Instr.lookup, run_underlying hm, MapKept.run_getObj_map hh, Q.check, hf, hz]
  | some p => obtain ⟨i, v⟩ := p; rw [h] at hf hg; rw [← hg]; simp [Instr.lookup, run_underlying hm, MapKept.run_getObj_map hh, Q.check, hf]
theorem seekL_some {x : K} : ∀ {L : List (K × Value)} {i j : Nat} {v : Value}, seekL x L i = some (j, v) → ∃ n u, j = i + n ∧ L[n]? = some (x, u) ∧ ∀ w, putL x w L = L.set n (x, w) := by
  intro L
  induction L with
  | nil => intro i j v h; cases h
  | cons p t ih =>
    obtain ⟨k, u⟩ := p
    intro i j v h
    unfold seekL at h
    by_cases hk : x = k
    · rw [if_pos hk] at h
      cases h
      subst hk
      exact ⟨0, _, rfl, rfl, fun w => by unfold putL; rw [if_pos rfl]; rfl⟩
    · rw [if_neg hk] at h
      obtain ⟨n, u', e1, e2, e3⟩ := ih h
      exact ⟨n + 1, u', by omega, by simpa using e2, fun w => by unfold putL; rw [if_neg hk, e3 w]; rfl⟩
theorem seekL_none {x : K} : ∀ {L : List (K × Value)} {i : Nat}, seekL x L i = none → ∀ w, putL x w L = L ++ [(x, w)] := by
  intro L
  induction L with
  | nil => intro i _ w; rfl
  | cons p t ih =>
    obtain ⟨k, u⟩ := p
    intro i h w
    unfold seekL at h
    by_cases hk : x = k
    · rw [if_pos hk] at h; cases h
    · rw [if_neg hk] at h
      unfold putL
      rw [if_neg hk, ih h w]; rfl
theorem Keys.put {mty et : TypeId} (hm : P.underlying mty = some (.map kt et)) {w : World} {b : Nat} {L : List (K × Value)} (x : K) (v : Value) (hx : Q.ok w x) (hok : ∀ p ∈ L, Q.ok w p.1) (hb : Q.Is w b L) :
    ∃ w', (Instr.mapUpdate mty (.map (some b)) (Q.kv x) v).run P w = .ok () w' ∧ Q.Is w' b (putL x v L) ∧ w.grownBy w' (some b) ∧ w'.heap.size = w.heap.size := by
  obtain ⟨es, clock, hh, he⟩ := hb
  have hf := Q.find w x hx L es.toList hok he
  have hlt := (Array.getElem?_eq_some_iff.1 hh).1
  cases h : seekL x L 0 with
  | none =>
    rw [h] at hf
    refine ⟨_, by simp [Instr.mapUpdate, run_underlying hm, MapKept.run_getObj_map hh, Q.check, hf, MapKept.run_setObj_map _ hh, Result.andThen]; rfl, ?_, ?_, by simp⟩
    · refine ⟨_, _, (MapKept.heap_set hh).1, ?_⟩
      rw [seekL_none h, Array.toList_push, List.map_append, he, List.map_append]
      rfl
    · exact ⟨rfl, rfl, rfl, by simp, fun i _ hi => (MapKept.heap_set hh).2 i (fun e => hi (by rw [e]))⟩
  | some p =>
    obtain ⟨j, u⟩ := p
    rw [h] at hf
    obtain ⟨n, u', e1, e2, e3⟩ := seekL_some h
    rw [Nat.zero_add] at e1
    subst e1
    have hkey : (es[j]?).map (·.key) = some (Q.kv x) := by
      have h1 : (es.toList.map (fun e => (e.key, e.val)))[j]? = some (Q.kv x, u') := by rw [he, List.getElem?_map, e2]; rfl
      rw [List.getElem?_map, Array.getElem?_toList] at h1
      cases hj : es[j]? with
      | none => rw [hj] at h1; cases h1
      | some e => rw [hj] at h1; simp only [Option.map_some, Option.some.injEq, Prod.mk.injEq] at h1; simp [h1.1]
    have hks : (Instr.keyThatStays (((es[j]?).map (·.key)).getD (Q.kv x)) (Q.kv x)).run P w = .ok (Q.kv x) w := by
      rw [hkey]
      simp [Instr.keyThatStays, Q.bits]
    refine ⟨_, by simp [Instr.mapUpdate, run_underlying hm, MapKept.run_getObj_map hh, Q.check, hf, hks, MapKept.run_setObj_map _ hh, Result.andThen]; rfl, ?_, ?_, by simp⟩
    · refine ⟨_, _, (MapKept.heap_set hh).1, ?_⟩
      rw [e3 v]
      apply List.ext_getElem?
      intro i
      have hi : (es.toList.map (fun e => (e.key, e.val)))[i]? = (L.map (fun p => (Q.kv p.1, p.2)))[i]? := by rw [he]
      rw [List.getElem?_map, List.getElem?_map, Array.getElem?_toList] at hi
      rw [List.getElem?_map, List.getElem?_map, Array.getElem?_toList, Array.getElem?_modify, List.getElem?_set]
      by_cases hij : j = i
      · subst hij
        have hl : j < L.length := (List.getElem?_eq_some_iff.1 e2).1
        rw [if_pos rfl, if_pos rfl, if_pos hl]
        cases hj : es[j]? with
        | none => rw [hj] at hkey; cases hkey
        | some e => rfl
      · rw [if_neg hij, if_neg hij]; exact hi
    · exact ⟨rfl, rfl, rfl, by simp, fun i _ hi => (MapKept.heap_set hh).2 i (fun e => hi (by rw [e]))⟩
theorem Keys.Is.grown {w w' : World} {b : Nat} {L : List (K × Value)} (h : Q.Is w b L) (hb : w'.heap[b]? = w.heap[b]?) : Q.Is w' b L := by
  obtain ⟨es, clock, hh, he⟩ := h
  exact ⟨es, clock, hb.trans hh, he⟩
end
end Go.Proofs.Ytbbbmmemfndnlaa
/- Plain mathematics of chapter 2: letters, figures, runs, names, words. -/
namespace Go.Proofs.Ytbbbmmemfndnlaa.Qm

def low (c : Int) : Bool := (decide (97 ≤ c) && decide (c ≤ 122)) || decide (c = 95)
def fig (c : Int) : Bool := decide (48 ≤ c) && decide (c ≤ 57)
def part (c : Int) : Bool := low c || fig c
def okAt (k : Nat) (c : Int) : Bool := low c || (decide (k ≠ 0) && fig c)
def letters : Nat → List UInt8 → Bool
  | _, [] => true
  | k, c :: t => okAt k c.toNat && letters (k + 1) t
def run (p : Int → Bool) : List UInt8 → Nat
  | [] => 0
  | c :: t => if p c.toNat then 1 + run p t else 0
/-- the words that are no names -/
def words : List (List UInt8) := [[110, 117, 108, 108], [116, 114, 117, 101], [102, 97, 108, 115, 101], [105, 102], [116, 104, 101, 110], [101, 108, 115, 101], [108, 111, 99, 97, 108], [102, 117, 110, 99, 116, 105, 111, 110], [115, 101, 108, 102], [115, 117, 112, 101, 114], [101, 114, 114, 111, 114], [105, 109, 112, 111, 114, 116], [102, 111, 114], [105, 110], [115, 116, 100]]
def has : List (List UInt8) → List UInt8 → Bool
  | [], _ => false
  | x :: t, l => (l == x) || has t l
def name (s : ByteArray) : Bool := letters 0 s.data.toList && (decide (1 ≤ s.size) && decide (s.size ≤ 12)) && !has words s.toList

theorem len_eq (s : ByteArray) : s.data.toList.length = s.size := by rw [Array.length_toList]; rfl
theorem drop_at (s : ByteArray) (k : Nat) (h : k < s.size) : s.data.toList.drop k = s[k] :: s.data.toList.drop (k + 1) := by
  rw [List.drop_eq_getElem_cons (by simpa using h)]; rfl
theorem drop_end (s : ByteArray) (k : Nat) (h : ¬ k < s.size) : s.data.toList.drop k = [] := by
  apply List.drop_eq_nil_of_le; simpa using h
theorem letters_step (s : ByteArray) (k : Nat) (h : k < s.size) : letters k (s.data.toList.drop k) = (okAt k s[k].toNat && letters (k + 1) (s.data.toList.drop (k + 1))) := by
  rw [drop_at s k h]; rfl
theorem run_step (p : Int → Bool) (s : ByteArray) (k : Nat) (h : k < s.size) : run p (s.data.toList.drop k) = if p s[k].toNat then 1 + run p (s.data.toList.drop (k + 1)) else 0 := by
  rw [drop_at s k h]; rfl
theorem run_end (p : Int → Bool) (s : ByteArray) (k : Nat) (h : ¬ k < s.size) : run p (s.data.toList.drop k) = 0 := by
  rw [drop_end s k h]; rfl
theorem run_le (p : Int → Bool) (l : List UInt8) : run p l ≤ l.length := by
  induction l with
  | nil => exact Nat.le_refl _
  | cons c t ih => simp only [run, List.length_cons]; split <;> omega
theorem run_iff (p : Int → Bool) (l : List UInt8) : run p l = l.length ↔ l.all (fun c => p c.toNat) = true := by
  induction l with
  | nil => simp [run]
  | cons c t ih =>
    have := run_le p t
    by_cases h : p c.toNat = true
    · have e : run p (c :: t) = 1 + run p t := by simp [run, h]
      rw [e, List.all_cons, h, Bool.true_and, ← ih, List.length_cons]; omega
    · have e : run p (c :: t) = 0 := by simp [run, h]
      rw [e, List.all_cons, Bool.eq_false_iff.2 h]; simp
theorem run_all (p : Int → Bool) (l : List UInt8) : decide (run p l = l.length) = l.all (fun c => p c.toNat) := by
  rw [Bool.eq_iff_iff, decide_eq_true_iff]; exact run_iff p l
theorem letters_succ (k : Nat) (l : List UInt8) : letters (k + 1) l = l.all (fun c => part c.toNat) := by
  induction l generalizing k with
  | nil => rfl
  | cons c t ih => simp only [letters, List.all_cons, ih (k + 1)]; simp [okAt, part]
theorem letters_part (c : UInt8) (t : List UInt8) : letters 0 (c :: t) = (low c.toNat && decide (run part (c :: t) = (c :: t).length)) := by
  rw [run_all]; simp only [letters, letters_succ, List.all_cons]
  simp [okAt, part]
  cases low c.toNat <;> simp
/-- how the program asks it -/
theorem name_eq (s : ByteArray) (h : 0 < s.size) : name s = (decide (s.size ≤ 12) && (low s[0].toNat && (decide (run part s.data.toList = s.size) && !has words s.toList))) := by
  unfold name
  have e : s.data.toList = s[0] :: s.data.toList.drop 1 := by have := drop_at s 0 h; simpa using this
  have e1 : letters 0 s.data.toList = (low s[0].toNat && decide (run part s.data.toList = s.size)) := by
    have h2 := letters_part s[0] (s.data.toList.drop 1)
    rw [← e] at h2
    rw [h2]; simp
  rw [e1]
  have h1 : decide (1 ≤ s.size) = true := decide_eq_true h
  rw [h1]
  cases decide (s.size ≤ 12) <;> cases low s[0].toNat <;> cases decide (run part s.data.toList = s.size) <;> simp
theorem name_none (s : ByteArray) (h : ¬ 0 < s.size) : name s = false := by
  unfold name
  have : decide (1 ≤ s.size) = false := by simpa using h
  rw [this]; simp
theorem name_long (s : ByteArray) (h : ¬ s.size ≤ 12) : name s = false := by
  unfold name
  have : decide (s.size ≤ 12) = false := by simpa using h
  rw [this]; simp
theorem has_drop (L : List (List UInt8)) (l : List UInt8) (k : Nat) (h : k < L.length) : has (L.drop k) l = ((l == L[k]) || has (L.drop (k + 1)) l) := by
  rw [List.drop_eq_getElem_cons h]; rfl
theorem has_end (L : List (List UInt8)) (l : List UInt8) (k : Nat) (h : ¬ k < L.length) : has (L.drop k) l = false := by
  rw [List.drop_eq_nil_of_le (by omega)]; rfl
end Go.Proofs.Ytbbbmmemfndnlaa.Qm
