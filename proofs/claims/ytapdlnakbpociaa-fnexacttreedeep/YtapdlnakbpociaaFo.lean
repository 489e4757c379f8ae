/- Trees: a list of trees as it lies in memory. Its first, what stands below the first, and the rest. -/
import Derived.Test.YtapdlnakbpociaaProg
import Derived.WalkKit
import Derived.Below
import Derived.Lib.SmallJoins
namespace Go.Proofs.Ytapdlnakbpociaa
open Go.RowKit
/-- a list of trees: kind, text, number, where its own list lies (with length and capacity), that list, the rest -/
inductive Fo
  | nil
  | cons (kind : Int) (text : ByteArray) (man exp : Int) (at_ : Option Addr) (cap : Nat) (kids : Fo) (next : Fo)
def Fo.len : Fo → Nat
  | .nil => 0
  | .cons _ _ _ _ _ _ _ next => next.len + 1
def Fo.size : Fo → Nat
  | .nil => 0
  | .cons _ _ _ _ _ _ kids next => kids.size + 1 + next.size
def Fo.deep : Fo → Nat
  | .nil => 0
  | .cons _ _ _ _ _ _ kids next => max (kids.deep + 1) next.deep
/-- what the laws' own measure counts -/
def Fo.wt : Fo → Nat
  | .nil => 0
  | .cons _ t _ _ _ _ kids next => t.size + kids.wt + 1 + next.wt
theorem Fo.len_wt (F : Fo) : F.len ≤ F.wt := by
  induction F with
  | nil => exact Nat.le_refl _
  | cons k t m e a c kids next _ ih => show next.len + 1 ≤ t.size + kids.wt + 1 + next.wt; omega
theorem Fo.size_wt (F : Fo) : F.size ≤ F.wt := by
  induction F with
  | nil => exact Nat.le_refl _
  | cons k t m e a c kids next ih1 ih2 => show kids.size + 1 + next.size ≤ t.size + kids.wt + 1 + next.wt; omega
/-- what is left, or -1 -/
def leftOf (need l : Nat) : Int := if need ≤ l then ((l - need : Nat) : Int) else -1
theorem Fo.len_le (F : Fo) : F.len ≤ F.size := by
  induction F with
  | nil => exact Nat.le_refl _
  | cons k t m e a c kids next _ ih => show next.len + 1 ≤ kids.size + 1 + next.size; omega
theorem Fo.deep_le (F : Fo) : F.deep ≤ F.size := by
  induction F with
  | nil => exact Nat.le_refl _
  | cons k t m e a c kids next ih1 ih2 => show max (kids.deep + 1) next.deep ≤ kids.size + 1 + next.size; omega
/-- the list lies from cell o of block b on -/
def Fo.From (w : World) : Fo → Nat → Nat → Prop
  | .nil, _, _ => True
  | .cons k t m e a c kids next, b, o =>
    (w.cell? ⟨b, o, none⟩ = some (.int .i64 k) ∧ w.cell? ⟨b, o + 1, none⟩ = some (.string t) ∧ w.cell? ⟨b, o + 2, none⟩ = some (.int .i64 m) ∧ w.cell? ⟨b, o + 3, none⟩ = some (.int .i64 e) ∧ w.cell? ⟨b, o + 4, none⟩ = some (.slice a kids.len c)) ∧
    (kids = .nil ∨ ∃ b' o', a = some ⟨b', o', none⟩ ∧ kids.From w b' o') ∧ kids.len ≤ c ∧ c ≤ maxLen ∧ t.size ≤ maxLen ∧ next.From w b (o + 5)
/-- the list of a slice -/
def Fo.In (w : World) (F : Fo) (a : Option Addr) : Prop := F = .nil ∨ ∃ b o, a = some ⟨b, o, none⟩ ∧ F.From w b o
theorem Fo.from_below {B : Nat} {w w' : World} (h : Below B w w') : ∀ (F : Fo) (b o : Nat), F.From w b o → (∀ b' o' v, w.cell? ⟨b', o', none⟩ = some v → b' < B) → F.From w' b o := by
  intro F
  induction F with
  | nil => intro b o _ _; trivial
  | cons k t m e a c kids next ih1 ih2 =>
    rintro b o ⟨⟨h1, h2, h3, h4, h5⟩, hk, hc, hm, ht, hn⟩ hlt
    have hb : b < B := hlt _ _ _ h1
    refine ⟨⟨(h.cell (p := ⟨b, o, none⟩) hb).trans h1, (h.cell (p := ⟨b, o + 1, none⟩) hb).trans h2, (h.cell (p := ⟨b, o + 2, none⟩) hb).trans h3, (h.cell (p := ⟨b, o + 3, none⟩) hb).trans h4, (h.cell (p := ⟨b, o + 4, none⟩) hb).trans h5⟩, ?_, hc, hm, ht, ih2 _ _ hn hlt⟩
    rcases hk with hk | ⟨b', o', e1, e2⟩
    · exact .inl hk
    · exact .inr ⟨b', o', e1, ih1 _ _ e2 hlt⟩
theorem Fo.from_grow {w w' : World} (h : Below w.heap.size w w') (F : Fo) (b o : Nat) (hF : F.From w b o) : F.From w' b o :=
  Fo.from_below h F b o hF fun _ _ _ hc => World.block_lt_of_cell? w _ hc
theorem Fo.In.grow {w w' : World} {F : Fo} {a : Option Addr} (hF : F.In w a) (h : Below w.heap.size w w') : F.In w' a := by
  rcases hF with rfl | ⟨b, o, rfl, hF⟩
  · exact .inl rfl
  · exact .inr ⟨b, o, rfl, Fo.from_grow h F b o hF⟩
/-- a tree's value -/
abbrev nodeV (k : Int) (t : ByteArray) (m e : Int) (a : Option Addr) (n c : Nat) : Value := .agg #[.int .i64 k, .string t, .int .i64 m, .int .i64 e, .slice a n c]

end Go.Proofs.Ytapdlnakbpociaa
