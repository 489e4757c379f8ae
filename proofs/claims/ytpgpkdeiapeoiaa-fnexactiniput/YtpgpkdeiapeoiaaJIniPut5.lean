/- My own texts, joined: Va Rw Vb Vd Ve Vf LexB. -/
import Derived.Test.YtpgpkdeiapeoiaaJIniPut4
import Derived.Deep.RegionHeld3
import Derived.Laws.MakeOwn
/- Values: a list of values as it lies in memory. Its first, what stands in the first, and the rest. -/
namespace Go.Proofs.Ytpgpkdeiapeoiaa
open Go.RowKit
/-- texts one behind the other -/
def SFrom (w : World) : List ByteArray → Nat → Nat → Prop
  | [], _, _ => True
  | s :: t, b, o => w.cell? ⟨b, o, none⟩ = some (.string s) ∧ s.size ≤ maxLen ∧ SFrom w t b (o + 1)
/-- the texts of a slice -/
def SIn (w : World) (ss : List ByteArray) (a : Option Addr) : Prop := ss = [] ∨ ∃ b o, a = some ⟨b, o, none⟩ ∧ SFrom w ss b o
theorem SFrom.grow {w w' : World} (h : Below w.heap.size w w') : ∀ {ss : List ByteArray} {b o : Nat}, SFrom w ss b o → SFrom w' ss b o := by
  intro ss
  induction ss with
  | nil => intro b o _; trivial
  | cons s t ih =>
    rintro b o ⟨h1, h2, h3⟩
    exact ⟨(h.cell (p := ⟨b, o, none⟩) (World.block_lt_of_cell? w _ h1)).trans h1, h2, ih h3⟩
theorem SIn.grow {w w' : World} {ss : List ByteArray} {a : Option Addr} (hs : SIn w ss a) (h : Below w.heap.size w w') : SIn w' ss a := by
  rcases hs with rfl | ⟨b, o, rfl, hs⟩
  · exact .inl rfl
  · exact .inr ⟨b, o, rfl, hs.grow h⟩
theorem SFrom.agree {P : Nat → Prop} {w w' : World} (h : ∀ b o v, P b → w.cell? ⟨b, o, none⟩ = some v → w'.cell? ⟨b, o, none⟩ = some v) : ∀ {ss : List ByteArray} {b o : Nat}, P b → SFrom w ss b o → SFrom w' ss b o := by
  intro ss
  induction ss with
  | nil => intro b o _ _; trivial
  | cons s t ih =>
    rintro b o hb ⟨h1, h2, h3⟩
    exact ⟨h _ _ _ hb h1, h2, ih hb h3⟩
theorem SFrom.at {w : World} : ∀ {ss : List ByteArray} {b o i : Nat} {s : ByteArray}, SFrom w ss b o → ss[i]? = some s → w.cell? ⟨b, o + i, none⟩ = some (.string s) ∧ s.size ≤ maxLen := by
  intro ss
  induction ss with
  | nil => intro b o i s _ h; cases h
  | cons x t ih =>
    rintro b o i s ⟨h1, h2, h3⟩ h
    cases i with
    | zero => simp at h; subst h; exact ⟨h1, h2⟩
    | succ i =>
      have := ih h3 (show t[i]? = some s by simpa using h)
      rw [show o + 1 + i = o + (i + 1) by omega] at this
      exact this
theorem SFrom.of {w : World} : ∀ {ss : List ByteArray} {b o : Nat}, (∀ i s, ss[i]? = some s → w.cell? ⟨b, o + i, none⟩ = some (.string s) ∧ s.size ≤ maxLen) → SFrom w ss b o := by
  intro ss
  induction ss with
  | nil => intro b o _; trivial
  | cons x t ih =>
    intro b o h
    have h0 := h 0 x rfl
    refine ⟨h0.1, h0.2, ih fun i s hi => ?_⟩
    have := h (i + 1) s (by simpa using hi)
    rw [show o + (i + 1) = o + 1 + i by omega] at this
    exact this
/-- how much the laws' measure counts of texts -/
def sWt : List ByteArray → Nat
  | [] => 0
  | s :: t => s.size + 1 + sWt t
theorem len_sWt (ss : List ByteArray) : ss.length ≤ sWt ss := by
  induction ss with
  | nil => exact Nat.le_refl _
  | cons s t ih => show t.length + 1 ≤ s.size + 1 + sWt t; omega
/-- a value but for what is in it: kind, number, text, names with where they lie -/
structure Hd where
  k : Int
  m : Int
  e : Int
  t : ByteArray
  na : Option Addr
  nc : Nat
  ns : List ByteArray
/-- the same but for where names lie -/
def Hd.same (h g : Hd) : Prop := (h.k = g.k ∧ h.m = g.m ∧ h.e = g.e ∧ h.t = g.t) ∧ h.ns = g.ns
theorem Hd.same_refl (h : Hd) : h.same h := ⟨⟨rfl, rfl, rfl, rfl⟩, rfl⟩
theorem Hd.same_symm {h g : Hd} (x : h.same g) : g.same h := ⟨⟨x.1.1.symm, x.1.2.1.symm, x.1.2.2.1.symm, x.1.2.2.2.symm⟩, x.2.symm⟩
theorem Hd.same_trans {h g f : Hd} (x : h.same g) (y : g.same f) : h.same f := ⟨⟨x.1.1.trans y.1.1, x.1.2.1.trans y.1.2.1, x.1.2.2.1.trans y.1.2.2.1, x.1.2.2.2.trans y.1.2.2.2⟩, x.2.trans y.2⟩
/-- its texts are no longer than texts can be, its names lie there -/
def Hd.In (w : World) (h : Hd) : Prop := SIn w h.ns h.na ∧ (h.ns.length ≤ h.nc ∧ h.nc ≤ maxLen) ∧ h.t.size ≤ maxLen
theorem Hd.In.grow {w w' : World} {h : Hd} (x : h.In w) (hb : Below w.heap.size w w') : h.In w' := ⟨x.1.grow hb, x.2⟩
/-- a list of values: the first but for what is in it, where that lies, that list, the rest -/
inductive Vo
  | nil
  | cons (h : Hd) (at_ : Option Addr) (cap : Nat) (kids : Vo) (next : Vo)
def Vo.len : Vo → Nat
  | .nil => 0
  | .cons _ _ _ _ next => next.len + 1
def Vo.size : Vo → Nat
  | .nil => 0
  | .cons _ _ _ kids next => kids.size + 1 + next.size
def Vo.deep : Vo → Nat
  | .nil => 0
  | .cons _ _ _ kids next => max (kids.deep + 1) next.deep
/-- what the laws' own measure counts -/
def Vo.wt : Vo → Nat
  | .nil => 0
  | .cons h _ _ kids next => h.t.size + kids.wt + sWt h.ns + 1 + next.wt
theorem Vo.len_wt (F : Vo) : F.len ≤ F.wt := by
  induction F with
  | nil => exact Nat.le_refl _
  | cons h a c kids next _ ih => show next.len + 1 ≤ h.t.size + kids.wt + sWt h.ns + 1 + next.wt; omega
theorem Vo.size_wt (F : Vo) : F.size ≤ F.wt := by
  induction F with
  | nil => exact Nat.le_refl _
  | cons h a c kids next ih1 ih2 => show kids.size + 1 + next.size ≤ h.t.size + kids.wt + sWt h.ns + 1 + next.wt; omega
theorem Vo.len_le (F : Vo) : F.len ≤ F.size := by
  induction F with
  | nil => exact Nat.le_refl _
  | cons h a c kids next _ ih => show next.len + 1 ≤ kids.size + 1 + next.size; omega
/-- all names in it are no more than this -/
def Vo.few (N : Nat) : Vo → Prop
  | .nil => True
  | .cons h _ _ kids next => h.ns.length ≤ N ∧ kids.few N ∧ next.few N
theorem Vo.few_wt : ∀ (F : Vo) (N : Nat), F.wt ≤ N → F.few N := by
  intro F
  induction F with
  | nil => intro N _; trivial
  | cons h a c kids next ih1 ih2 =>
    intro N hN
    have e : (Vo.cons h a c kids next).wt = h.t.size + kids.wt + sWt h.ns + 1 + next.wt := rfl
    have := len_sWt h.ns
    exact ⟨by omega, ih1 N (by omega), ih2 N (by omega)⟩
/-- the six cells of a value -/
def Cells6 (w : World) (b o : Nat) (h : Hd) (v : Value) : Prop :=
  w.cell? ⟨b, o, none⟩ = some (.int .i64 h.k) ∧ w.cell? ⟨b, o + 1, none⟩ = some (.int .i64 h.m) ∧ w.cell? ⟨b, o + 2, none⟩ = some (.int .i64 h.e) ∧ w.cell? ⟨b, o + 3, none⟩ = some (.string h.t) ∧ w.cell? ⟨b, o + 4, none⟩ = some v ∧ w.cell? ⟨b, o + 5, none⟩ = some (.slice h.na h.ns.length h.nc)
theorem Cells6.lt {w : World} {b o : Nat} {h : Hd} {v : Value} (x : Cells6 w b o h v) : b < w.heap.size := World.block_lt_of_cell? w _ x.1
theorem Cells6.mono {w w' : World} {b o : Nat} {h : Hd} {v : Value} (x : Cells6 w b o h v) (f : ∀ o' u, w.cell? ⟨b, o', none⟩ = some u → w'.cell? ⟨b, o', none⟩ = some u) : Cells6 w' b o h v :=
  ⟨f _ _ x.1, f _ _ x.2.1, f _ _ x.2.2.1, f _ _ x.2.2.2.1, f _ _ x.2.2.2.2.1, f _ _ x.2.2.2.2.2⟩
theorem Cells6.grow {w w' : World} {b o : Nat} {h : Hd} {v : Value} (x : Cells6 w b o h v) (hb : Below w.heap.size w w') : Cells6 w' b o h v :=
  x.mono fun o' _ hu => (hb.cell (p := ⟨b, o', none⟩) (World.block_lt_of_cell? w _ hu)).trans hu
/-- the list lies from cell o of block b on -/
def Vo.From (w : World) : Vo → Nat → Nat → Prop
  | .nil, _, _ => True
  | .cons h a c kids next, b, o => Cells6 w b o h (.slice a kids.len c) ∧ (kids = .nil ∨ ∃ b' o', a = some ⟨b', o', none⟩ ∧ kids.From w b' o') ∧ (kids.len ≤ c ∧ c ≤ maxLen) ∧ h.In w ∧ next.From w b (o + 6)
/-- the list of a slice -/
def Vo.In (w : World) (F : Vo) (a : Option Addr) : Prop := F = .nil ∨ ∃ b o, a = some ⟨b, o, none⟩ ∧ F.From w b o
theorem Vo.from_grow {w w' : World} (hb : Below w.heap.size w w') : ∀ (F : Vo) (b o : Nat), F.From w b o → F.From w' b o := by
  intro F
  induction F with
  | nil => intro b o _; trivial
  | cons h a c kids next ih1 ih2 =>
    rintro b o ⟨h1, hk, hc, hh, hn⟩
    refine ⟨h1.grow hb, ?_, hc, hh.grow hb, ih2 _ _ hn⟩
    rcases hk with hk | ⟨b', o', e1, e2⟩
    · exact .inl hk
    · exact .inr ⟨b', o', e1, ih1 _ _ e2⟩
theorem Vo.In.grow {w w' : World} {F : Vo} {a : Option Addr} (hF : F.In w a) (h : Below w.heap.size w w') : F.In w' a := by
  rcases hF with rfl | ⟨b, o, rfl, hF⟩
  · exact .inl rfl
  · exact .inr ⟨b, o, rfl, Vo.from_grow h F b o hF⟩
theorem Vo.from_of_len {F : Vo} {w : World} {a : Option Addr} (hin : F.In w a) {i : Nat} (hi : i < F.len) : ∃ b o, a = some ⟨b, o, none⟩ ∧ F.From w b o := by
  rcases hin with rfl | h
  · exact absurd hi (Nat.not_lt_zero _)
  · exact h
/-- a value -/
abbrev valV (h : Hd) (a : Option Addr) (n c : Nat) : Value := .agg #[.int .i64 h.k, .int .i64 h.m, .int .i64 h.e, .string h.t, .slice a n c, .slice h.na h.ns.length h.nc]
/-- the same but for where they lie -/
def Vo.alike : Vo → Vo → Prop
  | .nil, .nil => True
  | .cons h _ _ kids next, .cons h' _ _ kids' next' => h.same h' ∧ kids.alike kids' ∧ next.alike next'
  | _, _ => False
theorem Vo.alike_nil {F : Vo} (h : F.alike .nil) : F = .nil := by cases F with
  | nil => rfl
  | cons => exact h.elim
theorem Vo.alike_cons {F : Vo} {h : Hd} {a : Option Addr} {c : Nat} {kids next : Vo} (x : F.alike (.cons h a c kids next)) : ∃ h' a' c' kids' next', F = .cons h' a' c' kids' next' ∧ h'.same h ∧ kids'.alike kids ∧ next'.alike next := by
  cases F with
  | nil => exact x.elim
  | cons h' a' c' kids' next' => exact ⟨h', a', c', kids', next', rfl, x.1, x.2.1, x.2.2⟩
theorem Vo.alike_len : ∀ {G F : Vo}, F.alike G → F.len = G.len := by
  intro G
  induction G with
  | nil => intro F h; rw [Vo.alike_nil h]
  | cons h a c kids next _ ih =>
    intro F x
    obtain ⟨h', a', c', kids', next', rfl, _, _, h2⟩ := Vo.alike_cons x
    show next'.len + 1 = next.len + 1
    rw [ih h2]
theorem Vo.alike_size : ∀ {G F : Vo}, F.alike G → F.size = G.size := by
  intro G
  induction G with
  | nil => intro F h; rw [Vo.alike_nil h]
  | cons h a c kids next ih1 ih2 =>
    intro F x
    obtain ⟨h', a', c', kids', next', rfl, _, h1, h2⟩ := Vo.alike_cons x
    show kids'.size + 1 + next'.size = kids.size + 1 + next.size
    rw [ih1 h1, ih2 h2]
theorem Vo.alike_sym : ∀ {G F : Vo}, F.alike G → G.alike F := by
  intro G
  induction G with
  | nil => intro F h; rw [Vo.alike_nil h]; trivial
  | cons h a c kids next ih1 ih2 =>
    intro F x
    obtain ⟨h', a', c', kids', next', rfl, h0, h1, h2⟩ := Vo.alike_cons x
    exact ⟨Hd.same_symm h0, ih1 h1, ih2 h2⟩
theorem Vo.alike_trans : ∀ {G F E : Vo}, F.alike G → G.alike E → F.alike E := by
  intro G
  induction G with
  | nil => intro F E h1 h2; rw [Vo.alike_nil h1]; exact h2
  | cons h a c kids next ih1 ih2 =>
    intro F E x y
    obtain ⟨h', a', c', kids', next', rfl, h0, h3, h4⟩ := Vo.alike_cons x
    cases E with
    | nil => exact y.elim
    | cons h2 a2 c2 kids2 next2 => exact ⟨Hd.same_trans h0 y.1, ih1 h3 y.2.1, ih2 h4 y.2.2⟩
/-- the lists and names below lie in such blocks only -/
def Hd.Blk (P : Nat → Prop) (h : Hd) : Prop := h.ns = [] ∨ ∃ b o, h.na = some ⟨b, o, none⟩ ∧ P b
def Vo.Blk (P : Nat → Prop) : Vo → Prop
  | .nil => True
  | .cons h a _ kids next => h.Blk P ∧ (kids = .nil ∨ ∃ b' o', a = some ⟨b', o', none⟩ ∧ P b') ∧ kids.Blk P ∧ next.Blk P
theorem Hd.Blk.mono {P Q : Nat → Prop} (h : ∀ b, P b → Q b) {x : Hd} (y : x.Blk P) : x.Blk Q := by
  rcases y with y | ⟨b, o, e1, e2⟩
  · exact .inl y
  · exact .inr ⟨b, o, e1, h _ e2⟩
theorem Vo.Blk.mono {P Q : Nat → Prop} (h : ∀ b, P b → Q b) : ∀ {F : Vo}, F.Blk P → F.Blk Q := by
  intro F
  induction F with
  | nil => exact fun _ => trivial
  | cons hd a c kids next ih1 ih2 =>
    rintro ⟨hh, h0, h1, h2⟩
    refine ⟨hh.mono h, ?_, ih1 h1, ih2 h2⟩
    rcases h0 with h0 | ⟨b', o', e1, e2⟩
    · exact .inl h0
    · exact .inr ⟨b', o', e1, h _ e2⟩
theorem Hd.In.agree {P : Nat → Prop} {w w' : World} (h : ∀ b o v, P b → w.cell? ⟨b, o, none⟩ = some v → w'.cell? ⟨b, o, none⟩ = some v) {x : Hd} (y : x.Blk P) (z : x.In w) : x.In w' := by
  refine ⟨?_, z.2⟩
  rcases z.1 with z | ⟨b, o, e1, e2⟩
  · exact .inl z
  · rcases y with y | ⟨b', o', e3, e4⟩
    · exact .inl y
    · rw [e1] at e3
      cases e3
      exact .inr ⟨b, o, e1, e2.agree h e4⟩
theorem Vo.from_agree {P : Nat → Prop} {w w' : World} (h : ∀ b o v, P b → w.cell? ⟨b, o, none⟩ = some v → w'.cell? ⟨b, o, none⟩ = some v) : ∀ (F : Vo) (b o : Nat), P b → F.Blk P → F.From w b o → F.From w' b o := by
  intro F
  induction F with
  | nil => intro b o _ _ _; trivial
  | cons hd a c kids next ih1 ih2 =>
    rintro b o hb ⟨hh, h0, hb1, hb2⟩ ⟨h1, hk, hc, hi, hn⟩
    refine ⟨h1.mono fun o' u hu => h _ _ _ hb hu, ?_, hc, hi.agree h hh, ih2 _ _ hb hb2 hn⟩
    rcases hk with hk | ⟨b', o', e1, e2⟩
    · exact .inl hk
    · rcases h0 with h0 | ⟨b'', o'', e3, e4⟩
      · exact .inl h0
      · rw [e1] at e3
        cases e3
        exact .inr ⟨b', o', e1, ih1 _ _ e4 hb1 e2⟩
/-- from cell o of block nb on lies a value like this one -/
def VCop (P : Nat → Prop) (w : World) (nb o : Nat) (h : Hd) (kids : Vo) : Prop :=
  ∃ (h' : Hd) (a' : Option Addr) (c' : Nat) (kids' : Vo), Cells6 w nb o h' (.slice a' kids'.len c') ∧ (kids' = .nil ∨ ∃ b' o', a' = some ⟨b', o', none⟩ ∧ P b' ∧ kids'.From w b' o') ∧ kids'.Blk P ∧ kids'.alike kids ∧ (kids'.len ≤ c' ∧ c' ≤ maxLen) ∧ h'.In w ∧ h'.Blk P ∧ h'.same h
theorem VCop.agree {P : Nat → Prop} {w w' : World} {nb o : Nat} {h : Hd} {kids : Vo} (x : VCop P w nb o h kids) (hP : ∀ b o v, P b → w.cell? ⟨b, o, none⟩ = some v → w'.cell? ⟨b, o, none⟩ = some v)
    (hnb : ∀ q v, q < 6 → w.cell? ⟨nb, o + q, none⟩ = some v → w'.cell? ⟨nb, o + q, none⟩ = some v) : VCop P w' nb o h kids := by
  obtain ⟨h', a', c', kids', ⟨h1, h2, h3, h4, h5, h6⟩, hk, hB, hA, hc, hi, hb, hs⟩ := x
  refine ⟨h', a', c', kids', ⟨hnb 0 _ (by omega) h1, hnb 1 _ (by omega) h2, hnb 2 _ (by omega) h3, hnb 3 _ (by omega) h4, hnb 4 _ (by omega) h5, hnb 5 _ (by omega) h6⟩, ?_, hB, hA, hc, hi.agree hP hb, hb, hs⟩
  rcases hk with hk | ⟨b', o', e1, e2, e3⟩
  · exact .inl hk
  · exact .inr ⟨b', o', e1, e2, Vo.from_agree hP kids' b' o' e2 hB e3⟩
/-- the first j of a list are copied -/
def VPre (P : Nat → Prop) (w : World) (nb : Nat) : Vo → Nat → Nat → Prop
  | _, _, 0 => True
  | .nil, _, _ + 1 => True
  | .cons h _ _ kids next, o, j + 1 => VCop P w nb o h kids ∧ VPre P w nb next (o + 6) j
theorem VPre.agree {P : Nat → Prop} {w w' : World} {nb : Nat} (hP : ∀ b o v, P b → w.cell? ⟨b, o, none⟩ = some v → w'.cell? ⟨b, o, none⟩ = some v) :
    ∀ (F : Vo) (o j : Nat), (∀ o' v, o' < o + 6 * j → w.cell? ⟨nb, o', none⟩ = some v → w'.cell? ⟨nb, o', none⟩ = some v) → VPre P w nb F o j → VPre P w' nb F o j := by
  intro F
  induction F with
  | nil => intro o j _ _; cases j <;> trivial
  | cons h a c kids next _ ih =>
    intro o j hnb x
    cases j with
    | zero => trivial
    | succ j =>
      obtain ⟨h1, h2⟩ := x
      exact ⟨h1.agree hP (fun q v hq => hnb _ v (by omega)), ih _ _ (fun o' v ho => hnb o' v (by omega)) h2⟩
def Vo.drop : Vo → Nat → Vo
  | F, 0 => F
  | .nil, _ + 1 => .nil
  | .cons _ _ _ _ next, j + 1 => next.drop j
theorem Vo.drop_next : ∀ {F : Vo} {j : Nat} {h : Hd} {a : Option Addr} {c : Nat} {kids next : Vo}, F.drop j = .cons h a c kids next → F.drop (j + 1) = next := by
  intro F
  induction F with
  | nil => intro j; cases j <;> intro h a c kids next x <;> cases x
  | cons h0 a0 c0 kids0 next0 _ ih =>
    intro j h a c kids next x
    cases j with
    | zero => cases x; show next0.drop 0 = next0; cases next0 <;> rfl
    | succ j => exact ih x
theorem VPre.snoc {P : Nat → Prop} {w : World} {nb : Nat} : ∀ {F : Vo} {o j : Nat} {h : Hd} {a : Option Addr} {c : Nat} {kids next : Vo}, F.drop j = .cons h a c kids next → VPre P w nb F o j → VCop P w nb (o + 6 * j) h kids → VPre P w nb F o (j + 1) := by
  intro F
  induction F with
  | nil => intro o j; cases j <;> intro h a c kids next x <;> cases x
  | cons h0 a0 c0 kids0 next0 _ ih =>
    intro o j h a c kids next x hp hc
    cases j with
    | zero =>
      cases x
      refine ⟨by simpa using hc, ?_⟩
      unfold VPre; trivial
    | succ j =>
      obtain ⟨h1, h2⟩ := hp
      refine ⟨h1, ih x h2 ?_⟩
      rw [show o + 6 + 6 * j = o + 6 * (j + 1) by omega]; exact hc
/-- all are copied: there lies a list like it -/
theorem VPre.done {P : Nat → Prop} {w : World} {nb : Nat} : ∀ (F : Vo) (o j : Nat), F.len ≤ j → VPre P w nb F o j → ∃ F' : Vo, F'.alike F ∧ F'.Blk P ∧ F'.From w nb o := by
  intro F
  induction F with
  | nil => intro o j _ _; exact ⟨.nil, trivial, trivial, trivial⟩
  | cons h a c kids next _ ih =>
    intro o j hj x
    have hj' : next.len + 1 ≤ j := hj
    obtain ⟨j, rfl⟩ : ∃ i, j = i + 1 := ⟨j - 1, by omega⟩
    obtain ⟨⟨h', a', c', kids', hcells, hk, hB, hA, hc, hi, hb, hs⟩, h2⟩ := x
    obtain ⟨next', hA2, hB2, hF2⟩ := ih (o + 6) j (by omega) h2
    refine ⟨.cons h' a' c' kids' next', ⟨hs, hA, hA2⟩, ⟨hb, ?_, hB, hB2⟩, hcells, ?_, hc, hi, hF2⟩
    · rcases hk with hk | ⟨b', o', e1, e2, _⟩
      · exact .inl hk
      · exact .inr ⟨b', o', e1, e2⟩
    · rcases hk with hk | ⟨b', o', e1, _, e3⟩
      · exact .inl hk
      · exact .inr ⟨b', o', e1, e3⟩
/-- what stands at a place of a list -/
def Vo.hdAt : Vo → Nat → Hd
  | .nil, _ => ⟨0, 0, 0, ⟨#[]⟩, none, 0, []⟩
  | .cons h _ _ _ _, 0 => h
  | .cons _ _ _ _ next, i + 1 => next.hdAt i
def Vo.addrAt : Vo → Nat → Option Addr
  | .nil, _ => none
  | .cons _ a _ _ _, 0 => a
  | .cons _ _ _ _ next, i + 1 => next.addrAt i
def Vo.capAt : Vo → Nat → Nat
  | .nil, _ => 0
  | .cons _ _ c _ _, 0 => c
  | .cons _ _ _ _ next, i + 1 => next.capAt i
def Vo.kidsAt : Vo → Nat → Vo
  | .nil, _ => .nil
  | .cons _ _ _ kids _, 0 => kids
  | .cons _ _ _ _ next, i + 1 => next.kidsAt i
theorem Vo.from_at : ∀ {F : Vo} {w : World} {b o i : Nat}, F.From w b o → i < F.len →
    Cells6 w b (o + i * 6) (F.hdAt i) (.slice (F.addrAt i) (F.kidsAt i).len (F.capAt i)) ∧ (F.kidsAt i).In w (F.addrAt i) ∧ ((F.kidsAt i).len ≤ F.capAt i ∧ F.capAt i ≤ maxLen) ∧ (F.hdAt i).In w := by
  intro F
  induction F with
  | nil => intro w b o i _ h; exact absurd h (Nat.not_lt_zero _)
  | cons h a c kids next _ ih =>
    rintro w b o i ⟨hc, hk, h1, h2, hn⟩ hi
    cases i with
    | zero => simp only [Nat.zero_mul, Nat.add_zero]; exact ⟨hc, hk, h1, h2⟩
    | succ i =>
      have := ih hn (show i < next.len from Nat.lt_of_succ_lt_succ hi)
      rw [show o + 6 + i * 6 = o + (i + 1) * 6 by omega] at this
      exact this
theorem Vo.size_at : ∀ {F : Vo} {i : Nat}, i < F.len → (F.kidsAt i).size < F.size := by
  intro F
  induction F with
  | nil => intro i h; exact absurd h (Nat.not_lt_zero _)
  | cons h a c kids next _ ih =>
    intro i hi
    cases i with
    | zero => show kids.size < kids.size + 1 + next.size; omega
    | succ i => have := ih (show i < next.len from Nat.lt_of_succ_lt_succ hi); show (next.kidsAt i).size < kids.size + 1 + next.size; omega
theorem Vo.few_at : ∀ {F : Vo} {i N : Nat}, i < F.len → F.few N → (F.hdAt i).ns.length ≤ N ∧ (F.kidsAt i).few N := by
  intro F
  induction F with
  | nil => intro i N h; exact absurd h (Nat.not_lt_zero _)
  | cons h a c kids next _ ih =>
    rintro i N hi ⟨h1, h2, h3⟩
    cases i with
    | zero => exact ⟨h1, h2⟩
    | succ i => exact ih (show i < next.len from Nat.lt_of_succ_lt_succ hi) h3
end Go.Proofs.Ytpgpkdeiapeoiaa
/- A block's cells, that may be written, as a list of values. -/
namespace Go.Proofs.Ytpgpkdeiapeoiaa
open Go.RowKit
attribute [local go_sem] cell_alloc_is frozen_alloc_is
/-- block b has these cells at its beginning, and they may be written -/
def Row (w : World) (b : Nat) (vs : List Value) : Prop := ∀ i v, vs[i]? = some v → w.cell? ⟨b, i, none⟩ = some v ∧ w.frozen? ⟨b, i, none⟩ = false
theorem Row.new (w : World) (vs : List Value) (T : TypeId) : Row (w.alloc (.cells vs.toArray T)) w.heap.size vs := by
  intro i v hi
  refine ⟨?_, by simp⟩
  rw [World.cell?_alloc_new]
  simpa using hi
theorem Row.lt {w : World} {b : Nat} {v : Value} {vs : List Value} (h : Row w b (v :: vs)) : b < w.heap.size := World.block_lt_of_cell? w _ (h 0 v rfl).1
theorem Row.below {B : Nat} {w w' : World} {b : Nat} {vs : List Value} (h : Row w b vs) (hb : Below B w w') (hB : b < B) : Row w' b vs := fun i v hi =>
  ⟨(hb.cell (p := ⟨b, i, none⟩) hB).trans (h i v hi).1, (hb.frozen (p := ⟨b, i, none⟩) hB).trans (h i v hi).2⟩
theorem Row.setOther {w : World} {b : Nat} {vs : List Value} (h : Row w b vs) {j : Nat} (hj : ¬ b = j) (o : Nat) (u : Value) : Row (w.setCell ⟨j, o, none⟩ u) b vs := fun i v hi =>
  ⟨(World.cell?_setCell_other _ _ _ _ (fun e => hj (by simpa using congrArg Addr.block e.symm))).trans (h i v hi).1, by simpa using (h i v hi).2⟩
theorem Row.set {w : World} {b : Nat} {vs : List Value} (h : Row w b vs) {i : Nat} (hi : i < vs.length) (u : Value) : Row (w.setCell ⟨b, i, none⟩ u) b (vs.set i u) := by
  intro j v hj
  rw [List.getElem?_set] at hj
  by_cases e : i = j
  · subst e
    rw [if_pos rfl, if_pos hi] at hj
    cases hj
    have h0 := h i (vs[i]) (List.getElem?_eq_getElem hi)
    exact ⟨set_near ⟨_, h0.1⟩, by simpa using h0.2⟩
  · rw [if_neg e] at hj
    have h0 := h j v hj
    exact ⟨(set_far e).trans h0.1, by simpa using h0.2⟩
/-- cells o, o + 1 .. are written one behind the other -/
def putN (w : World) (b o : Nat) : List Value → World
  | [] => w
  | v :: t => putN (w.setCell ⟨b, o, none⟩ v) b (o + 1) t
theorem putN_other {b b' o' : Nat} : ∀ {vs : List Value} {w : World} {o : Nat}, (¬ b' = b ∨ o' < o ∨ o + vs.length ≤ o') → (putN w b o vs).cell? ⟨b', o', none⟩ = w.cell? ⟨b', o', none⟩ := by
  intro vs
  induction vs with
  | nil => intro w o _; rfl
  | cons v t ih =>
    intro w o h
    have hl : (v :: t).length = t.length + 1 := rfl
    show (putN (w.setCell ⟨b, o, none⟩ v) b (o + 1) t).cell? _ = _
    rw [ih (by omega)]
    exact World.cell?_setCell_other _ _ _ _ (fun e => by simp at e; omega)
theorem putN_cell {b : Nat} : ∀ {vs : List Value} {w : World} {o i : Nat} {v : Value}, (∀ q, q < vs.length → ∃ u, w.cell? ⟨b, o + q, none⟩ = some u) → vs[i]? = some v → (putN w b o vs).cell? ⟨b, o + i, none⟩ = some v := by
  intro vs
  induction vs with
  | nil => intro w o i v _ h; cases h
  | cons x t ih =>
    intro w o i v hc h
    have hl : (x :: t).length = t.length + 1 := rfl
    show (putN (w.setCell ⟨b, o, none⟩ x) b (o + 1) t).cell? _ = _
    cases i with
    | zero =>
      simp at h
      subst h
      rw [putN_other (.inr (.inl (by omega)))]
      obtain ⟨u, hu⟩ := hc 0 (by omega)
      exact set_near ⟨u, hu⟩
    | succ i =>
      rw [show o + (i + 1) = o + 1 + i by omega]
      refine ih (fun q hq => ?_) (by simpa using h)
      obtain ⟨u, hu⟩ := hc (q + 1) (by omega)
      rw [show o + 1 + q = o + (q + 1) by omega]
      exact set_is ⟨u, hu⟩
theorem putN_size {b : Nat} : ∀ {vs : List Value} {w : World} {o : Nat}, (putN w b o vs).heap.size = w.heap.size := by
  intro vs
  induction vs with
  | nil => intro w o; rfl
  | cons v t ih => intro w o; show (putN (w.setCell ⟨b, o, none⟩ v) b (o + 1) t).heap.size = _; rw [ih]; simp [World.setCell]
theorem putN_below {B b : Nat} {a : World} (hb : B ≤ b) : ∀ {vs : List Value} {w : World} {o : Nat}, Below B a w → Below B a (putN w b o vs) := by
  intro vs
  induction vs with
  | nil => intro w o h; exact h
  | cons v t ih => intro w o h; exact ih (h.setCell (p := ⟨b, o, none⟩) hb _)
theorem putN_frozen {b : Nat} (p : Addr) : ∀ {vs : List Value} {w : World} {o : Nat}, (putN w b o vs).frozen? p = w.frozen? p := by
  intro vs
  induction vs with
  | nil => intro w o; rfl
  | cons v t ih => intro w o; show (putN (w.setCell ⟨b, o, none⟩ v) b (o + 1) t).frozen? p = _; rw [ih]; simp
/-- block nb has so many cells, and they may be written -/
def RoomN (w : World) (nb n : Nat) : Prop := ∀ o, o < n → (∃ v, w.cell? ⟨nb, o, none⟩ = some v) ∧ w.frozen? ⟨nb, o, none⟩ = false
theorem RoomN.grow {w w' : World} {nb n : Nat} (h : RoomN w nb n) (hb : Below w.heap.size w w') : RoomN w' nb n := by
  intro o ho
  obtain ⟨⟨v, h1⟩, h2⟩ := h o ho
  have hl := World.block_lt_of_cell? w _ h1
  exact ⟨⟨v, (hb.cell (p := ⟨nb, o, none⟩) hl).trans h1⟩, (hb.frozen (p := ⟨nb, o, none⟩) hl).trans h2⟩
theorem RoomN.set {w : World} {nb n : Nat} (h : RoomN w nb n) (b o : Nat) (v : Value) : RoomN (w.setCell ⟨b, o, none⟩ v) nb n := by
  intro o' ho
  obtain ⟨h1, h2⟩ := h o' ho
  refine ⟨?_, by simpa using h2⟩
  obtain ⟨u, hu⟩ := h1
  exact cell?_setCell_some hu
theorem RoomN.putN {nb n : Nat} {b : Nat} : ∀ {vs : List Value} {w : World} {o : Nat}, RoomN w nb n → RoomN (putN w b o vs) nb n := by
  intro vs
  induction vs with
  | nil => intro w o h; exact h
  | cons v t ih => intro w o h; exact ih (h.set b o v)
theorem roomN_new (w : World) (cs : Array Value) (T : TypeId) : RoomN (w.alloc (.cells cs T)) w.heap.size cs.size := by
  intro o ho
  refine ⟨⟨cs[o]'ho, ?_⟩, by simp⟩
  rw [World.cell?_alloc_new]
  simp [ho]
end Go.Proofs.Ytpgpkdeiapeoiaa
/- Lists of texts: the laws' measure, copy and comparison, and slices.Equal. -/
namespace Go.Proofs.Ytpgpkdeiapeoiaa
open Go.RowKit
attribute [local go_sem] cell_alloc_is frozen_alloc_is
theorem drop_cons {α : Type} {ss : List α} {j : Nat} {s : α} {t : List α} (h : ss.drop j = s :: t) : ss[j]? = some s ∧ ss.drop (j + 1) = t := by
  constructor
  · have : (ss.drop j)[0]? = some s := by rw [h]; rfl
    simpa using this
  · have : (ss.drop j).drop 1 = t := by rw [h]; rfl
    rw [List.drop_drop] at this
    exact this
set_option maxHeartbeats 1000000 in
theorem szStringS_any (ss : List ByteArray) (a : Option Addr) (c : Nat) (w : World) (l : Nat) (hin : SIn w ss a) (hl : ss.length ≤ c) (hc : c ≤ maxLen) (hl2 : l ≤ 1048576) :
    Calls Try.prog 19 #[.slice a ss.length c, .int .i64 l] w fun e w' => e = .returned (.int .i64 (leftOf (sWt ss) l)) ∧ Below w.heap.size w w' := by
  unfold maxLen at hc
  have hlw := len_sWt ss
  obtain ⟨N, hN⟩ : ∃ N, ss.length = N := ⟨_, rfl⟩
  have HN : Hid (ss.length = N) := hN
  rw [hN] at hl hlw ⊢
  clear hN
  by_cases h0 : N ≤ l
  · have h0' : ¬ (l : Int) - (N : Int) < 0 := by omega
    go_enter Try.func19, Try.ntmps19
    go_wp2_with fail
    go_loopw [1, 5] (fun o i wr => ∃ (j d : Nat) (rest : List ByteArray), i = .int .i64 j ∧ o = .int .i64 d ∧ ss.drop j = rest ∧ j + rest.length = N ∧ d + sWt ss + rest.length = l + sWt rest ∧ d ≤ l ∧ Below w.heap.size w wr) (fun _ i _ => N - (intOf i).toNat)
    case atStart => exact ⟨0, l - N, ss, rfl, by congr 1; omega, rfl, by have := HN.out; omega, by have := HN.out; omega, by omega, Below.refl _ _⟩
    case round =>
      obtain ⟨j, d, rest, rfl, rfl, hd, hj, hs, hs1, hb⟩ := hrel
      cases rest with
      | nil =>
        have hj' : j = N := by simpa using hj
        have hs' : d + sWt ss = l := by simpa [sWt] using hs
        have HL : Hid (leftOf (sWt ss) l = (d : Int)) := by unfold Hid leftOf; rw [if_pos (by omega)]; congr 1; omega
        subst hj'
        clear hd hj hs hs' hin
        go_wp2_with fail
        go_ret
        exact ⟨by rw [HL.out]; rfl, hb⟩
      | cons s t =>
        have hln : j + (t.length + 1) = N := hj
        have hlt : (j : Int) < (N : Int) := by omega
        have hjl : j < N := by omega
        have hwt : d + sWt ss + (t.length + 1) = l + (s.size + 1 + sWt t) := hs
        obtain ⟨hd1, hd2⟩ := drop_cons hd
        have HD : Hid (ss.drop (j + 1) = t) := hd2
        have htw := len_sWt t
        rcases hin with hin | ⟨b, o, rfl, hF⟩
        · rw [hin] at hd1; simp at hd1
        obtain ⟨hcell, hsz⟩ := (hF.grow hb).at hd1
        unfold maxLen at hsz
        clear hj hs hd hd1 hd2 hF
        by_cases hdd : s.size ≤ d
        · have hd0 : ¬ (d : Int) - (s.size : Int) < 0 := by omega
          go_wp2_with fail
          go_round
          case rel => exact ⟨j + 1, d - s.size, t, by go_num, by congr 1; omega, HD.out, by omega, by omega, by omega, hb⟩
          case measure => simp [intOf]; omega
        · have hd0 : (d : Int) - (s.size : Int) < 0 := by omega
          have HR : Hid (leftOf (sWt ss) l = -1) := by unfold Hid leftOf; rw [if_neg (by omega)]
          go_wp2_with fail
          go_ret
          exact ⟨by rw [HR.out]; rfl, hb⟩
  · have h0' : (l : Int) - (N : Int) < 0 := by omega
    have HL : Hid (leftOf (sWt ss) l = -1) := by unfold Hid leftOf; rw [if_neg (by omega)]
    rw [HL.out]
    go_enter Try.func19, Try.ntmps19
    go_wp2_with fail
    go_ret
    exact ⟨rfl, Below.refl _ _⟩
theorem strInfo : (Try.prog.info? 9).map (fun i => (i.zero, i.size, i.bytes)) = some (some (.string ⟨#[]⟩), 1, 16) := by kernel_rfl
theorem make_strs (n : Nat) (hn : n ≤ 2000000) (w : World) : (Instr.makeSlice 25 (.int .i64 (n : Int)) (.int .i64 (n : Int))).run Try.prog w = .ok (.slice (some ⟨w.heap.size, 0, none⟩) n n) (w.alloc (.cells (madeCells #[.string ⟨#[]⟩] n) 9)) := by
  obtain ⟨i, hi, hzz⟩ := Option.map_eq_some_iff.1 strInfo
  simp only [Prod.mk.injEq] at hzz
  obtain ⟨hz, hs, hb⟩ := hzz
  have hr := run_make (P := Try.prog) w 25 9 i _ Try.underlying25 hi hz .i64 .i64 n n (by omega) (Int.le_refl _) (by rw [hb]; omega) (by omega)
  simp only [Int.toNat_natCast, hs, Nat.mul_one] at hr
  exact hr
set_option maxHeartbeats 1000000 in
theorem toStringS_any (ss : List ByteArray) (a : Option Addr) (c : Nat) (w : World) (hin : SIn w ss a) (hn : ss.length ≤ 2000000) :
    Calls Try.prog 24 #[.slice a ss.length c] w fun r w' => (∃ nb : Nat, r = .returned (.slice (some ⟨nb, 0, none⟩) ss.length ss.length) ∧ w.heap.size ≤ nb ∧ SFrom w' ss nb 0 ∧ Clean w.heap.size w') ∧ Below w.heap.size w w' := by
  have hmk := make_strs ss.length hn
  obtain ⟨N, hN⟩ : ∃ N, ss.length = N := ⟨_, rfl⟩
  have HN : Hid (ss.length = N) := hN
  rw [hN] at hmk hn ⊢
  clear hN
  have hroom0 := roomN_new w (madeCells #[.string ⟨#[]⟩] N) 9
  rw [show (madeCells #[Value.string ⟨#[]⟩] N).size = N by rw [size_madeCells]] at hroom0
  have HC0 : Hid (Clean w.heap.size (w.alloc (.cells (madeCells #[.string ⟨#[]⟩] N) 9))) := (Clean.refl w).alloc _ _
  have hb0 : Below w.heap.size w (w.alloc (.cells (madeCells #[.string ⟨#[]⟩] N) 9)) := (Below.refl _ _).alloc (Nat.le_refl _) _
  have HR0 : Hid (RoomN (w.alloc (.cells (madeCells #[.string ⟨#[]⟩] N) 9)) w.heap.size N) := hroom0
  clear hroom0
  go_enter Try.func24, Try.ntmps24
  go_wp2_with fail
  go_loopw [4] (fun i wr => ∃ (j : Nat), i = .int .i64 j ∧ j ≤ N ∧ RoomN wr w.heap.size N ∧ (∀ q s, q < j → ss[q]? = some s → wr.cell? ⟨w.heap.size, q, none⟩ = some (.string s)) ∧ Clean w.heap.size wr ∧ Below w.heap.size w wr) (fun i _ => N - (intOf i).toNat)
  case atStart => exact ⟨0, rfl, Nat.zero_le _, HR0.out, fun q s hq => absurd hq (Nat.not_lt_zero _), HC0.out, hb0⟩
  case round =>
    obtain ⟨j, rfl, hj, hR, hP, hcl, hb⟩ := hrel
    have HCl : Hid (Clean w.heap.size wr) := hcl
    have HP : Hid (∀ q s, q < j → ss[q]? = some s → wr.cell? ⟨w.heap.size, q, none⟩ = some (.string s)) := hP
    clear hcl hP HR0 HC0 hb0
    by_cases hjn : j < N
    · have hlt : (j : Int) < (N : Int) := by omega
      have hjs : j < ss.length := by rw [HN.out]; exact hjn
      obtain ⟨s, hs⟩ : ∃ s, ss[j]? = some s := ⟨ss[j], List.getElem?_eq_getElem hjs⟩
      rcases hin with hin | ⟨b, o, rfl, hF⟩
      · rw [hin] at hs; simp at hs
      obtain ⟨hcell, hsz⟩ := (hF.grow hb).at hs
      have HS : Hid (ss[j]? = some s) := hs
      have HRm : Hid (RoomN wr w.heap.size N) := hR
      obtain ⟨⟨v0, c0⟩, f0⟩ := hR j hjn
      clear hs hF hR hjs
      go_wp2_with fail
      go_round
      case rel =>
        refine ⟨j + 1, by go_num, by omega, HRm.out.set _ _ _, fun q u hq hu => ?_, HCl.out.setCell _ _, hb.setCell (p := ⟨w.heap.size, j, none⟩) (Nat.le_refl _) _⟩
        by_cases e : q = j
        · subst e
          rw [HS.out] at hu
          cases hu
          exact set_near ⟨_, c0⟩
        · exact (set_far (fun e' => e e'.symm)).trans (HP.out q u (by omega) hu)
      case measure => simp [intOf]; omega
    · have e : j = N := by omega
      subst e
      have HF : Hid (SFrom wr ss w.heap.size 0) := SFrom.of fun i s hs => by
        have hi : i < ss.length := (List.getElem?_eq_some_iff.1 hs).1
        refine ⟨by rw [Nat.zero_add]; exact HP.out i s (by rw [← HN.out]; exact hi) hs, ?_⟩
        rcases hin with hin | ⟨b, o, rfl, hF⟩
        · rw [hin] at hs; simp at hs
        · exact (hF.at hs).2
      clear hin
      go_wp2_with fail
      go_ret
      exact ⟨⟨w.heap.size, rfl, Nat.le_refl _, HF.out, HCl.out⟩, hb⟩
set_option maxRecDepth 100000 in
set_option maxHeartbeats 1000000 in
theorem es6 {Q : Exit → Act → World → Prop} {t2 t3 t4 t6 t7 t8 t9 t10 t11 t12 t13 t14 t15 t16 t17 t18 t19 t20 t21 t22 t23 t24 t25 : Value} {W : World} {b o n c b2 o2 n2 c2 j : Nat} {s s2 : ByteArray} {q : Bool}
    (hj : (j : Int) < (n : Int)) (hj2 : (j : Int) < (n2 : Int)) (h1 : W.cell? ⟨b, o + j, none⟩ = some (.string s)) (h2 : W.cell? ⟨b2, o2 + j, none⟩ = some (.string s2)) (hq : (s.toList == s2.toList) = !q)
    (hp : ∀ p d v a w, Q (.panic p) (Act.put a d v) w → Q (.panic p) a w) (h : ∀ ws v17 v18 v19 v20 v21 v22 v23 v24, Below W.heap.size W ws → Q .normal { tmps := ((.slice (some ⟨b, o, none⟩) n c) :: (.slice (some ⟨b2, o2, none⟩) n2 c2) :: t2 :: t3 :: t4 :: (.int .i64 (j : Nat)) :: t6 :: t7 :: t8 :: t9 :: t10 :: t11 :: t12 :: t13 :: t14 :: t15 :: t16 :: v17 :: v18 :: v19 :: v20 :: v21 :: v22 :: v23 :: v24 :: .bool q :: []).toArray, defers := [] } ws) :
    Code.wp Try.prog (Code.region 6 #[{ dst := some 17, op := Op.move (Operand.tmp 0), type := 25, pos := "exact.go:261", after := #[], guard := none }, { dst := some 18, op := Op.move (Operand.tmp 5), type := 3, pos := "exact.go:261", after := #[], guard := none }, { dst := some 19, op := Op.indexAddr 25 (Operand.tmp 17) (Operand.tmp 18), type := 0, pos := "exact.go:261", after := #[{ on := 0, ground := Ground.data }, { on := 1, ground := Ground.data }], guard := none }, { dst := some 20, op := Op.load 9 (Operand.tmp 19), type := 9, pos := "exact.go:261", after := #[{ on := 2, ground := Ground.data }], guard := none }, { dst := some 21, op := Op.move (Operand.tmp 1), type := 25, pos := "exact.go:261", after := #[], guard := none }, { dst := some 22, op := Op.move (Operand.tmp 5), type := 3, pos := "exact.go:261", after := #[], guard := none }, { dst := some 23, op := Op.indexAddr 25 (Operand.tmp 21) (Operand.tmp 22), type := 0, pos := "exact.go:261", after := #[{ on := 4, ground := Ground.data }, { on := 5, ground := Ground.data }], guard := none }, { dst := some 24, op := Op.load 9 (Operand.tmp 23), type := 9, pos := "exact.go:261", after := #[{ on := 6, ground := Ground.data }], guard := none }, { dst := some 25, op := Op.binOp BinOp.neq 9 (Operand.tmp 20) (Operand.tmp 24) 9, type := 4, pos := "exact.go:261", after := #[{ on := 3, ground := Ground.data }, { on := 7, ground := Ground.data }], guard := none }] true) Q { tmps := ((.slice (some ⟨b, o, none⟩) n c) :: (.slice (some ⟨b2, o2, none⟩) n2 c2) :: t2 :: t3 :: t4 :: (.int .i64 (j : Nat)) :: t6 :: t7 :: t8 :: t9 :: t10 :: t11 :: t12 :: t13 :: t14 :: t15 :: t16 :: t17 :: t18 :: t19 :: t20 :: t21 :: t22 :: t23 :: t24 :: t25 :: []).toArray, defers := [] } W := by
  have hS0 : W.drew.cell? ⟨b, o + j, none⟩ = some (.string s) ∧ W.drew.cell? ⟨b2, o2 + j, none⟩ = some (.string s2) := ⟨h1, h2⟩
  refine wp_region_held_drew (S := fun w' => w'.cell? ⟨b, o + j, none⟩ = some (.string s) ∧ w'.cell? ⟨b2, o2 + j, none⟩ = some (.string s2)) (by kernel_rfl) hS0 (fun hHeld => ?_)
  refine wpAnyH_take (i := 0) (v := .slice (some ⟨b, o, none⟩) n c) rfl (by kernel_rfl) (by kernel_rfl) (by kernel_rfl) (fun _ _ _ h => hp _ _ _ _ _ h) (Or.inl ⟨by rfl, ?_⟩) (by assumption) ?_
  · intro w hSw
    (try dsimp only at hSw)
    go_simp
  (try simp only [Act.put, List.getElem_toArray, List.getElem_cons_zero, List.setIfInBounds_toArray, List.set_cons_zero, List.set_cons_succ])
  refine wpAnyH_take (i := 1) (v := .int .i64 (j : Nat)) rfl (by kernel_rfl) (by kernel_rfl) (by kernel_rfl) (fun _ _ _ h => hp _ _ _ _ _ h) (Or.inl ⟨by rfl, ?_⟩) (by assumption) ?_
  · intro w hSw
    (try dsimp only at hSw)
    go_simp
  (try simp only [Act.put, List.getElem_toArray, List.getElem_cons_zero, List.getElem_cons_succ, List.setIfInBounds_toArray, List.set_cons_zero, List.set_cons_succ])
  refine wpAnyH_take (i := 2) (v := .pointer (some ⟨b, o + j, none⟩)) rfl (by kernel_rfl) (by kernel_rfl) (by kernel_rfl) (fun _ _ _ h => hp _ _ _ _ _ h) (Or.inl ⟨by rfl, ?_⟩) (by assumption) ?_
  · intro w hSw
    (try dsimp only at hSw)
    go_simp
  (try simp only [Act.put, List.getElem_toArray, List.getElem_cons_zero, List.getElem_cons_succ, List.setIfInBounds_toArray, List.set_cons_zero, List.set_cons_succ])
  refine wpAnyH_take (i := 3) (v := .string s) rfl (by kernel_rfl) (by kernel_rfl) (by kernel_rfl) (fun _ _ _ h => hp _ _ _ _ _ h) (Or.inl ⟨by rfl, ?_⟩) (by assumption) ?_
  · intro w hSw
    (try dsimp only at hSw)
    go_simp
  (try simp only [Act.put, List.getElem_toArray, List.getElem_cons_zero, List.getElem_cons_succ, List.setIfInBounds_toArray, List.set_cons_zero, List.set_cons_succ])
  refine wpAnyH_take (i := 4) (v := .slice (some ⟨b2, o2, none⟩) n2 c2) rfl (by kernel_rfl) (by kernel_rfl) (by kernel_rfl) (fun _ _ _ h => hp _ _ _ _ _ h) (Or.inl ⟨by rfl, ?_⟩) (by assumption) ?_
  · intro w hSw
    (try dsimp only at hSw)
    go_simp
  (try simp only [Act.put, List.getElem_toArray, List.getElem_cons_zero, List.getElem_cons_succ, List.setIfInBounds_toArray, List.set_cons_zero, List.set_cons_succ])
  refine wpAnyH_take (i := 5) (v := .int .i64 (j : Nat)) rfl (by kernel_rfl) (by kernel_rfl) (by kernel_rfl) (fun _ _ _ h => hp _ _ _ _ _ h) (Or.inl ⟨by rfl, ?_⟩) (by assumption) ?_
  · intro w hSw
    (try dsimp only at hSw)
    go_simp
  (try simp only [Act.put, List.getElem_toArray, List.getElem_cons_zero, List.getElem_cons_succ, List.setIfInBounds_toArray, List.set_cons_zero, List.set_cons_succ])
  refine wpAnyH_take (i := 6) (v := .pointer (some ⟨b2, o2 + j, none⟩)) rfl (by kernel_rfl) (by kernel_rfl) (by kernel_rfl) (fun _ _ _ h => hp _ _ _ _ _ h) (Or.inl ⟨by rfl, ?_⟩) (by assumption) ?_
  · intro w hSw
    (try dsimp only at hSw)
    go_simp
  (try simp only [Act.put, List.getElem_toArray, List.getElem_cons_zero, List.getElem_cons_succ, List.setIfInBounds_toArray, List.set_cons_zero, List.set_cons_succ])
  refine wpAnyH_take (i := 7) (v := .string s2) rfl (by kernel_rfl) (by kernel_rfl) (by kernel_rfl) (fun _ _ _ h => hp _ _ _ _ _ h) (Or.inl ⟨by rfl, ?_⟩) (by assumption) ?_
  · intro w hSw
    (try dsimp only at hSw)
    go_simp
  (try simp only [Act.put, List.getElem_toArray, List.getElem_cons_zero, List.getElem_cons_succ, List.setIfInBounds_toArray, List.set_cons_zero, List.set_cons_succ])
  refine wpAnyH_take (i := 8) (v := .bool q) rfl (by kernel_rfl) (by kernel_rfl) (by kernel_rfl) (fun _ _ _ h => hp _ _ _ _ _ h) (Or.inl ⟨by rfl, ?_⟩) (by assumption) ?_
  · intro w hSw
    (try dsimp only at hSw)
    go_simp
  (try simp only [Act.put, List.getElem_toArray, List.getElem_cons_zero, List.getElem_cons_succ, List.setIfInBounds_toArray, List.set_cons_zero, List.set_cons_succ])
  refine wpAnyH_done (by kernel_rfl) ?_ _
  exact h _ _ _ _ _ _ _ _ _ ((Below.refl W.heap.size W).drew)
set_option maxRecDepth 100000 in
set_option maxHeartbeats 1000000 in
theorem sq6 {Q : Exit → Act → World → Prop} {t2 t3 t4 t6 t7 t8 t9 t10 t11 t12 t13 t14 t15 t16 t17 t18 t19 t20 t21 t22 t23 t24 t25 : Value} {W : World} {b o n c b2 o2 n2 c2 j : Nat} {s s2 : ByteArray} {q : Bool}
    (hj : (j : Int) < (n : Int)) (hj2 : (j : Int) < (n2 : Int)) (h1 : W.cell? ⟨b, o + j, none⟩ = some (.string s)) (h2 : W.cell? ⟨b2, o2 + j, none⟩ = some (.string s2)) (hq : (s.toList == s2.toList) = !q)
    (hp : ∀ p d v a w, Q (.panic p) (Act.put a d v) w → Q (.panic p) a w) (h : ∀ ws v16 v17 v18 v19 v20 v21 v22 v23, Below W.heap.size W ws → Q .normal { tmps := ((.slice (some ⟨b, o, none⟩) n c) :: (.slice (some ⟨b2, o2, none⟩) n2 c2) :: t2 :: t3 :: t4 :: (.int .i64 (j : Nat)) :: t6 :: t7 :: t8 :: t9 :: t10 :: t11 :: t12 :: t13 :: t14 :: t15 :: v16 :: v17 :: v18 :: v19 :: v20 :: v21 :: v22 :: v23 :: .bool q :: t25 :: []).toArray, defers := [] } ws) :
    Code.wp Try.prog (Code.region 6 #[{ dst := some 16, op := Op.move (Operand.tmp 0), type := 25, pos := "slices.go:25", after := #[], guard := none }, { dst := some 17, op := Op.move (Operand.tmp 5), type := 3, pos := "slices.go:25", after := #[], guard := none }, { dst := some 18, op := Op.indexAddr 25 (Operand.tmp 16) (Operand.tmp 17), type := 0, pos := "slices.go:25", after := #[{ on := 0, ground := Ground.data }, { on := 1, ground := Ground.data }], guard := none }, { dst := some 19, op := Op.load 9 (Operand.tmp 18), type := 9, pos := "slices.go:25", after := #[{ on := 2, ground := Ground.data }], guard := none }, { dst := some 20, op := Op.move (Operand.tmp 1), type := 25, pos := "slices.go:25", after := #[], guard := none }, { dst := some 21, op := Op.move (Operand.tmp 5), type := 3, pos := "slices.go:25", after := #[], guard := none }, { dst := some 22, op := Op.indexAddr 25 (Operand.tmp 20) (Operand.tmp 21), type := 0, pos := "slices.go:25", after := #[{ on := 4, ground := Ground.data }, { on := 5, ground := Ground.data }], guard := none }, { dst := some 23, op := Op.load 9 (Operand.tmp 22), type := 9, pos := "slices.go:25", after := #[{ on := 6, ground := Ground.data }], guard := none }, { dst := some 24, op := Op.binOp BinOp.neq 9 (Operand.tmp 19) (Operand.tmp 23) 9, type := 4, pos := "slices.go:25", after := #[{ on := 3, ground := Ground.data }, { on := 7, ground := Ground.data }], guard := none }] true) Q { tmps := ((.slice (some ⟨b, o, none⟩) n c) :: (.slice (some ⟨b2, o2, none⟩) n2 c2) :: t2 :: t3 :: t4 :: (.int .i64 (j : Nat)) :: t6 :: t7 :: t8 :: t9 :: t10 :: t11 :: t12 :: t13 :: t14 :: t15 :: t16 :: t17 :: t18 :: t19 :: t20 :: t21 :: t22 :: t23 :: t24 :: t25 :: []).toArray, defers := [] } W := by
  have hS0 : W.drew.cell? ⟨b, o + j, none⟩ = some (.string s) ∧ W.drew.cell? ⟨b2, o2 + j, none⟩ = some (.string s2) := ⟨h1, h2⟩
  refine wp_region_held_drew (S := fun w' => w'.cell? ⟨b, o + j, none⟩ = some (.string s) ∧ w'.cell? ⟨b2, o2 + j, none⟩ = some (.string s2)) (by kernel_rfl) hS0 (fun hHeld => ?_)
  refine wpAnyH_take (i := 0) (v := .slice (some ⟨b, o, none⟩) n c) rfl (by kernel_rfl) (by kernel_rfl) (by kernel_rfl) (fun _ _ _ h => hp _ _ _ _ _ h) (Or.inl ⟨by rfl, ?_⟩) (by assumption) ?_
  · intro w hSw
    (try dsimp only at hSw)
    go_simp
  (try simp only [Act.put, List.getElem_toArray, List.getElem_cons_zero, List.setIfInBounds_toArray, List.set_cons_zero, List.set_cons_succ])
  refine wpAnyH_take (i := 1) (v := .int .i64 (j : Nat)) rfl (by kernel_rfl) (by kernel_rfl) (by kernel_rfl) (fun _ _ _ h => hp _ _ _ _ _ h) (Or.inl ⟨by rfl, ?_⟩) (by assumption) ?_
  · intro w hSw
    (try dsimp only at hSw)
    go_simp
  (try simp only [Act.put, List.getElem_toArray, List.getElem_cons_zero, List.getElem_cons_succ, List.setIfInBounds_toArray, List.set_cons_zero, List.set_cons_succ])
  refine wpAnyH_take (i := 2) (v := .pointer (some ⟨b, o + j, none⟩)) rfl (by kernel_rfl) (by kernel_rfl) (by kernel_rfl) (fun _ _ _ h => hp _ _ _ _ _ h) (Or.inl ⟨by rfl, ?_⟩) (by assumption) ?_
  · intro w hSw
    (try dsimp only at hSw)
    go_simp
  (try simp only [Act.put, List.getElem_toArray, List.getElem_cons_zero, List.getElem_cons_succ, List.setIfInBounds_toArray, List.set_cons_zero, List.set_cons_succ])
  refine wpAnyH_take (i := 3) (v := .string s) rfl (by kernel_rfl) (by kernel_rfl) (by kernel_rfl) (fun _ _ _ h => hp _ _ _ _ _ h) (Or.inl ⟨by rfl, ?_⟩) (by assumption) ?_
  · intro w hSw
    (try dsimp only at hSw)
    go_simp
  (try simp only [Act.put, List.getElem_toArray, List.getElem_cons_zero, List.getElem_cons_succ, List.setIfInBounds_toArray, List.set_cons_zero, List.set_cons_succ])
  refine wpAnyH_take (i := 4) (v := .slice (some ⟨b2, o2, none⟩) n2 c2) rfl (by kernel_rfl) (by kernel_rfl) (by kernel_rfl) (fun _ _ _ h => hp _ _ _ _ _ h) (Or.inl ⟨by rfl, ?_⟩) (by assumption) ?_
  · intro w hSw
    (try dsimp only at hSw)
    go_simp
  (try simp only [Act.put, List.getElem_toArray, List.getElem_cons_zero, List.getElem_cons_succ, List.setIfInBounds_toArray, List.set_cons_zero, List.set_cons_succ])
  refine wpAnyH_take (i := 5) (v := .int .i64 (j : Nat)) rfl (by kernel_rfl) (by kernel_rfl) (by kernel_rfl) (fun _ _ _ h => hp _ _ _ _ _ h) (Or.inl ⟨by rfl, ?_⟩) (by assumption) ?_
  · intro w hSw
    (try dsimp only at hSw)
    go_simp
  (try simp only [Act.put, List.getElem_toArray, List.getElem_cons_zero, List.getElem_cons_succ, List.setIfInBounds_toArray, List.set_cons_zero, List.set_cons_succ])
  refine wpAnyH_take (i := 6) (v := .pointer (some ⟨b2, o2 + j, none⟩)) rfl (by kernel_rfl) (by kernel_rfl) (by kernel_rfl) (fun _ _ _ h => hp _ _ _ _ _ h) (Or.inl ⟨by rfl, ?_⟩) (by assumption) ?_
  · intro w hSw
    (try dsimp only at hSw)
    go_simp
  (try simp only [Act.put, List.getElem_toArray, List.getElem_cons_zero, List.getElem_cons_succ, List.setIfInBounds_toArray, List.set_cons_zero, List.set_cons_succ])
  refine wpAnyH_take (i := 7) (v := .string s2) rfl (by kernel_rfl) (by kernel_rfl) (by kernel_rfl) (fun _ _ _ h => hp _ _ _ _ _ h) (Or.inl ⟨by rfl, ?_⟩) (by assumption) ?_
  · intro w hSw
    (try dsimp only at hSw)
    go_simp
  (try simp only [Act.put, List.getElem_toArray, List.getElem_cons_zero, List.getElem_cons_succ, List.setIfInBounds_toArray, List.set_cons_zero, List.set_cons_succ])
  refine wpAnyH_take (i := 8) (v := .bool q) rfl (by kernel_rfl) (by kernel_rfl) (by kernel_rfl) (fun _ _ _ h => hp _ _ _ _ _ h) (Or.inl ⟨by rfl, ?_⟩) (by assumption) ?_
  · intro w hSw
    (try dsimp only at hSw)
    go_simp
  (try simp only [Act.put, List.getElem_toArray, List.getElem_cons_zero, List.getElem_cons_succ, List.setIfInBounds_toArray, List.set_cons_zero, List.set_cons_succ])
  refine wpAnyH_done (by kernel_rfl) ?_ _
  exact h _ _ _ _ _ _ _ _ _ ((Below.refl W.heap.size W).drew)
theorem text_ext {a b : ByteArray} (h : a.toList = b.toList) : a = b := by
  rw [ByteArray.toList_eq, ByteArray.toList_eq] at h
  cases a; cases b; simpa using h
theorem text_ne {a b : ByteArray} (h : a ≠ b) : (a.toList != b.toList) = true := by
  rw [bne_iff_ne]; exact fun e => h (text_ext e)
theorem text_eq (a : ByteArray) : (a.toList != a.toList) = false := by simp
set_option maxRecDepth 100000 in
set_option maxHeartbeats 1000000 in
theorem eqStringS_any (ss tt : List ByteArray) (a a2 : Option Addr) (c c2 : Nat) (w : World) (hin : SIn w ss a) (hin2 : SIn w tt a2) (hl : ss.length ≤ c) (hc : c ≤ maxLen) (hl2 : tt.length ≤ c2) :
    Calls Try.prog 31 #[.slice a ss.length c, .slice a2 tt.length c2] w fun r w' => r = .returned (.bool (decide (ss = tt))) ∧ Below w.heap.size w w' := by
  unfold maxLen at hc
  by_cases hlen : ss.length = tt.length
  · obtain ⟨N, hN⟩ : ∃ N, ss.length = N := ⟨_, rfl⟩
    have HN : Hid (ss.length = N) := hN
    have HN2 : Hid (tt.length = N) := hlen.symm.trans hN
    rw [← hlen, hN] at hl2 ⊢
    rw [hN] at hl
    clear hlen hN
    go_enter Try.func31, Try.ntmps31
    go_wp2_with fail
    go_loopw [5] (fun i wr => ∃ (j : Nat), i = .int .i64 j ∧ j ≤ N ∧ (∀ q, q < j → ss[q]? = tt[q]?) ∧ Below w.heap.size w wr) (fun i _ => N - (intOf i).toNat)
    case atStart => exact ⟨0, rfl, Nat.zero_le _, fun q hq => absurd hq (Nat.not_lt_zero _), Below.refl _ _⟩
    case round =>
      obtain ⟨j, rfl, hj, hP, hb⟩ := hrel
      have HP : Hid (∀ q, q < j → ss[q]? = tt[q]?) := hP
      clear hP
      by_cases hjn : j < N
      · have hlt : (j : Int) < (N : Int) := by omega
        obtain ⟨s, hs⟩ : ∃ s, ss[j]? = some s := ⟨ss[j]'(by rw [HN.out]; exact hjn), List.getElem?_eq_getElem _⟩
        obtain ⟨s2, hs2⟩ : ∃ s, tt[j]? = some s := ⟨tt[j]'(by rw [HN2.out]; exact hjn), List.getElem?_eq_getElem _⟩
        rcases hin with hin | ⟨b, o, rfl, hF⟩
        · rw [hin] at hs; simp at hs
        rcases hin2 with hin2 | ⟨b2, o2, rfl, hF2⟩
        · rw [hin2] at hs2; simp at hs2
        have h1 := ((hF.grow hb).at hs).1
        have h2 := ((hF2.grow hb).at hs2).1
        have HS : Hid (ss[j]? = some s ∧ tt[j]? = some s2) := ⟨hs, hs2⟩
        clear hs hs2 hF hF2
        by_cases he : s = s2
        · subst he
          go_wp2_with fail
          refine es6 hlt hlt h1 h2 (q := false) (by simp) (fun _ d _ _ _ h => by cases d <;> exact h) ?_
          intro ws v17 v18 v19 v20 v21 v22 v23 v24 hb1
          have hb2 := hb.trans (hb1.mono hb.size)
          clear h1 h2 hb1 hb
          go_wp2_with fail
          go_round
          case rel =>
            refine ⟨j + 1, by go_num, by omega, fun q hq => ?_, hb2⟩
            by_cases e : q = j
            · rw [e, HS.out.1, HS.out.2]
            · exact HP.out q (by omega)
          case measure => simp [intOf]; omega
        · have hne := text_ne he
          have HR : Hid (decide (ss = tt) = false) := decide_eq_false fun e => he (by have := HS.out; rw [e] at this; exact Option.some.inj (this.1.symm.trans this.2))
          go_wp2_with fail
          refine es6 hlt hlt h1 h2 (q := true) (by simpa using hne) (fun _ d _ _ _ h => by cases d <;> exact h) ?_
          intro ws v17 v18 v19 v20 v21 v22 v23 v24 hb1
          have hb2 := hb.trans (hb1.mono hb.size)
          clear h1 h2 hb1 hb hne
          go_wp2_with fail
          go_ret
          exact ⟨by rw [HR.out]; rfl, hb2⟩
      · have e : j = N := by omega
        subst e
        have HR : Hid (decide (ss = tt) = true) := decide_eq_true (List.ext_getElem? fun i => by
          by_cases hi : i < j
          · exact HP.out i hi
          · rw [List.getElem?_eq_none (by rw [HN.out]; omega), List.getElem?_eq_none (by rw [HN2.out]; omega)])
        clear hin hin2
        go_wp2_with fail
        go_ret
        exact ⟨by rw [HR.out]; rfl, hb⟩
  · have hne : ((ss.length : Int) != (tt.length : Int)) = true := by simp; omega
    have HR : Hid (decide (ss = tt) = false) := decide_eq_false fun e => hlen (by rw [e])
    rw [HR.out]
    obtain ⟨n1, h1⟩ : ∃ n1, ss.length = n1 := ⟨_, rfl⟩
    obtain ⟨n2, h2⟩ : ∃ n2, tt.length = n2 := ⟨_, rfl⟩
    rw [h1, h2] at hne hlen ⊢
    have hlen' : ¬ (n1 : Int) = (n2 : Int) := by omega
    clear hin hin2 h1 h2 HR
    go_enter Try.func31, Try.ntmps31
    go_wp2_with fail
    go_ret
    exact ⟨rfl, Below.refl _ _⟩
set_option maxRecDepth 100000 in
set_option maxHeartbeats 1000000 in
theorem equalS_any (ss tt : List ByteArray) (a a2 : Option Addr) (c c2 : Nat) (w : World) (hin : SIn w ss a) (hin2 : SIn w tt a2) (hl : ss.length ≤ c) (hc : c ≤ maxLen) (hl2 : tt.length ≤ c2) :
    Calls Try.prog 73 #[.slice a ss.length c, .slice a2 tt.length c2] w fun r w' => r = .returned (.bool (decide (ss = tt))) ∧ Below w.heap.size w w' := by
  unfold maxLen at hc
  by_cases hlen : ss.length = tt.length
  · obtain ⟨N, hN⟩ : ∃ N, ss.length = N := ⟨_, rfl⟩
    have HN : Hid (ss.length = N) := hN
    have HN2 : Hid (tt.length = N) := hlen.symm.trans hN
    rw [← hlen, hN] at hl2 ⊢
    rw [hN] at hl
    clear hlen hN
    go_enter Try.func73, Try.ntmps73
    go_wp2_with fail
    go_loopw [13] (fun i wr => ∃ (j : Nat), i = .int .i64 j ∧ j ≤ N ∧ (∀ q, q < j → ss[q]? = tt[q]?) ∧ Below w.heap.size w wr) (fun i _ => N - (intOf i).toNat)
    case atStart => exact ⟨0, rfl, Nat.zero_le _, fun q hq => absurd hq (Nat.not_lt_zero _), Below.refl _ _⟩
    case round =>
      obtain ⟨j, rfl, hj, hP, hb⟩ := hrel
      have HP : Hid (∀ q, q < j → ss[q]? = tt[q]?) := hP
      clear hP
      by_cases hjn : j < N
      · have hlt : (j : Int) < (N : Int) := by omega
        obtain ⟨s, hs⟩ : ∃ s, ss[j]? = some s := ⟨ss[j]'(by rw [HN.out]; exact hjn), List.getElem?_eq_getElem _⟩
        obtain ⟨s2, hs2⟩ : ∃ s, tt[j]? = some s := ⟨tt[j]'(by rw [HN2.out]; exact hjn), List.getElem?_eq_getElem _⟩
        rcases hin with hin | ⟨b, o, rfl, hF⟩
        · rw [hin] at hs; simp at hs
        rcases hin2 with hin2 | ⟨b2, o2, rfl, hF2⟩
        · rw [hin2] at hs2; simp at hs2
        have h1 := ((hF.grow hb).at hs).1
        have h2 := ((hF2.grow hb).at hs2).1
        have HS : Hid (ss[j]? = some s ∧ tt[j]? = some s2) := ⟨hs, hs2⟩
        clear hs hs2 hF hF2
        by_cases he : s = s2
        · subst he
          go_wp2_with fail
          refine sq6 hlt hlt h1 h2 (q := false) (by simp) (fun _ d _ _ _ h => by cases d <;> exact h) ?_
          intro ws v16 v17 v18 v19 v20 v21 v22 v23 hb1
          have hb2 := hb.trans (hb1.mono hb.size)
          clear h1 h2 hb1 hb
          go_wp2_with fail
          go_round
          case rel =>
            refine ⟨j + 1, by go_num, by omega, fun q hq => ?_, hb2⟩
            by_cases e : q = j
            · rw [e, HS.out.1, HS.out.2]
            · exact HP.out q (by omega)
          case measure => simp [intOf]; omega
        · have hne := text_ne he
          have HR : Hid (decide (ss = tt) = false) := decide_eq_false fun e => he (by have := HS.out; rw [e] at this; exact Option.some.inj (this.1.symm.trans this.2))
          go_wp2_with fail
          refine sq6 hlt hlt h1 h2 (q := true) (by simpa using hne) (fun _ d _ _ _ h => by cases d <;> exact h) ?_
          intro ws v16 v17 v18 v19 v20 v21 v22 v23 hb1
          have hb2 := hb.trans (hb1.mono hb.size)
          clear h1 h2 hb1 hb hne
          go_wp2_with fail
          go_ret
          exact ⟨by rw [HR.out]; rfl, hb2⟩
      · have e : j = N := by omega
        subst e
        have HR : Hid (decide (ss = tt) = true) := decide_eq_true (List.ext_getElem? fun i => by
          by_cases hi : i < j
          · exact HP.out i hi
          · rw [List.getElem?_eq_none (by rw [HN.out]; omega), List.getElem?_eq_none (by rw [HN2.out]; omega)])
        clear hin hin2
        go_wp2_with fail
        go_ret
        exact ⟨by rw [HR.out]; rfl, hb⟩
  · have hne : ((ss.length : Int) != (tt.length : Int)) = true := by simp; omega
    have HR : Hid (decide (ss = tt) = false) := decide_eq_false fun e => hlen (by rw [e])
    rw [HR.out]
    obtain ⟨n1, h1⟩ : ∃ n1, ss.length = n1 := ⟨_, rfl⟩
    obtain ⟨n2, h2⟩ : ∃ n2, tt.length = n2 := ⟨_, rfl⟩
    rw [h1, h2] at hne hlen ⊢
    have hlen' : ¬ (n1 : Int) = (n2 : Int) := by omega
    clear hin hin2 h1 h2 HR
    go_enter Try.func73, Try.ntmps73
    go_wp2_with fail
    go_ret
    exact ⟨rfl, Below.refl _ _⟩
end Go.Proofs.Ytpgpkdeiapeoiaa
/- Contracts over values: the laws' own copy of a value, in cells that were never shared with a text. -/
namespace Go.Proofs.Ytpgpkdeiapeoiaa
open Go.RowKit
attribute [local go_sem] cell_alloc_is frozen_alloc_is
theorem valInfo : (Try.prog.info? 33).map (fun i => (i.zero, i.size, i.bytes)) = some (some (.agg #[.int .i64 0, .int .i64 0, .int .i64 0, .string ⟨#[]⟩, .slice none 0 0, .slice none 0 0]), 6, 88) := by kernel_rfl
/-- the cells of so many new values -/
def newVals (n : Nat) : Array Value := madeCells #[.int .i64 0, .int .i64 0, .int .i64 0, .string ⟨#[]⟩, .slice none 0 0, .slice none 0 0] (n * 6)
theorem make_vals (n : Nat) (hn : n ≤ 1100000) (w : World) : (Instr.makeSlice 31 (.int .i64 (n : Int)) (.int .i64 (n : Int))).run Try.prog w = .ok (.slice (some ⟨w.heap.size, 0, none⟩) n n) (w.alloc (.cells (newVals n) 33)) := by
  obtain ⟨i, hi, hzz⟩ := Option.map_eq_some_iff.1 valInfo
  simp only [Prod.mk.injEq] at hzz
  obtain ⟨hz, hs, hb⟩ := hzz
  have hr := run_make (P := Try.prog) w 31 33 i _ Try.underlying31 hi hz .i64 .i64 n n (by omega) (Int.le_refl _) (by rw [hb]; omega) (by omega)
  simp only [Int.toNat_natCast, hs] at hr
  exact hr
theorem roomV_new (w : World) (n : Nat) : RoomN (w.alloc (.cells (newVals n) 33)) w.heap.size (n * 6) := by
  have h := roomN_new w (newVals n) 33
  rw [show (newVals n).size = n * 6 from size_madeCells _ _] at h
  exact h
/-- a value is written -/
def put6 (w : World) (nb o : Nat) (v0 v1 v2 v3 v4 v5 : Value) : World := (((((w.setCell ⟨nb, o, none⟩ v0).setCell ⟨nb, o + 1, none⟩ v1).setCell ⟨nb, o + 2, none⟩ v2).setCell ⟨nb, o + 3, none⟩ v3).setCell ⟨nb, o + 4, none⟩ v4).setCell ⟨nb, o + 5, none⟩ v5
theorem put6_eq (w : World) (nb o : Nat) (v0 v1 v2 v3 v4 v5 : Value) : put6 w nb o v0 v1 v2 v3 v4 v5 = putN w nb o [v0, v1, v2, v3, v4, v5] := rfl
theorem put6_other {w : World} {nb o b o' : Nat} {v0 v1 v2 v3 v4 v5 : Value} (h : ¬ b = nb ∨ o' < o ∨ o + 6 ≤ o') : (put6 w nb o v0 v1 v2 v3 v4 v5).cell? ⟨b, o', none⟩ = w.cell? ⟨b, o', none⟩ := by
  rw [put6_eq]; exact putN_other h
theorem put6_cell {w : World} {nb o : Nat} {v0 v1 v2 v3 v4 v5 : Value} (h : ∀ q, q < 6 → ∃ u, w.cell? ⟨nb, o + q, none⟩ = some u) {i : Nat} {v : Value} (hi : ([v0, v1, v2, v3, v4, v5] : List Value)[i]? = some v) : (put6 w nb o v0 v1 v2 v3 v4 v5).cell? ⟨nb, o + i, none⟩ = some v := by
  rw [put6_eq]; exact putN_cell h hi
theorem put6_size {w : World} {nb o : Nat} {v0 v1 v2 v3 v4 v5 : Value} : (put6 w nb o v0 v1 v2 v3 v4 v5).heap.size = w.heap.size := by rw [put6_eq]; exact putN_size
theorem put6_below {B nb o : Nat} {a w : World} (h : Below B a w) (hb : B ≤ nb) (v0 v1 v2 v3 v4 v5 : Value) : Below B a (put6 w nb o v0 v1 v2 v3 v4 v5) := by rw [put6_eq]; exact putN_below hb h
theorem Clean.put6 {n : Nat} {w : World} (h : Clean n w) (nb o : Nat) (v0 v1 v2 v3 v4 v5 : Value) : Clean n (put6 w nb o v0 v1 v2 v3 v4 v5) := (((((h.setCell _ _).setCell _ _).setCell _ _).setCell _ _).setCell _ _).setCell _ _
theorem RoomN.put6 {w : World} {nb n : Nat} (h : RoomN w nb n) (b o : Nat) (v0 v1 v2 v3 v4 v5 : Value) : RoomN (put6 w b o v0 v1 v2 v3 v4 v5) nb n := by rw [put6_eq]; exact h.putN
/-- a value's names in another place -/
def Hd.to (h : Hd) (b : Nat) : Hd := ⟨h.k, h.m, h.e, h.t, some ⟨b, 0, none⟩, h.ns.length, h.ns⟩
theorem Hd.to_same (h : Hd) (b : Nat) : (h.to b).same h := ⟨⟨rfl, rfl, rfl, rfl⟩, rfl⟩
/-- a copy of a value, in new memory -/
def CopV (w w' : World) (h : Hd) (F : Vo) (r : Ending) : Prop :=
  ∃ (nb n2 : Nat) (F' : Vo), r = .returned (valV (h.to n2) (some ⟨nb, 0, none⟩) F'.len F'.len) ∧ (w.heap.size ≤ nb ∧ w.heap.size ≤ n2) ∧ F'.alike F ∧ F'.Blk (fun b => w.heap.size ≤ b) ∧ F'.From w' nb 0 ∧ SFrom w' h.ns n2 0 ∧ Clean w.heap.size w'
set_option maxHeartbeats 1000000 in
theorem toValueS_step (N : Nat) (H : ∀ (h : Hd) (a : Option Addr) (c : Nat) (F : Vo) (w : World), F.size < N → F.size ≤ 1100000 → F.few 1100000 → h.ns.length ≤ 1100000 → F.In w a → F.len ≤ c → c ≤ maxLen → h.In w →
      Calls Try.prog 9 #[valV h a F.len c] w fun r w' => CopV w w' h F r ∧ Below w.heap.size w w') :
    ∀ (a : Option Addr) (c : Nat) (F : Vo) (w : World), F.size ≤ N → F.size ≤ 1100000 → F.few 1100000 → F.In w a → F.len ≤ c → c ≤ maxLen →
      Calls Try.prog 23 #[.slice a F.len c] w fun r w' => (∃ (nb : Nat) (F' : Vo), r = .returned (.slice (some ⟨nb, 0, none⟩) F'.len F'.len) ∧ w.heap.size ≤ nb ∧ F'.alike F ∧ F'.Blk (fun b => w.heap.size ≤ b) ∧ F'.From w' nb 0 ∧ Clean w.heap.size w') ∧ Below w.heap.size w w' := by
  intro a c F w hF hF2 hfw hin hl hc
  have hll := F.len_le
  have hmk := make_vals F.len (by omega)
  unfold maxLen at hc
  go_enter Try.func23, Try.ntmps23
  go_wp2_with fail
  go_loopw [4] (fun i wr => ∃ (j : Nat) (G : Vo), i = .int .i64 j ∧ F.drop j = G ∧ j + G.len = F.len ∧ (G.size ≤ F.size ∧ G.few 1100000) ∧ (G = .nil ∨ ∃ b o', a = some ⟨b, o', none⟩ ∧ G.From w b (o' + j * 6)) ∧ RoomN wr w.heap.size (F.len * 6) ∧ VPre (fun b => w.heap.size < b) wr w.heap.size F 0 j ∧ w.heap.size < wr.heap.size ∧ Clean w.heap.size wr ∧ Below w.heap.size w wr) (fun i _ => F.len - (intOf i).toNat)
  case atStart =>
    refine ⟨0, F, rfl, by cases F <;> rfl, by omega, ⟨Nat.le_refl _, hfw⟩, ?_, roomV_new w F.len, by unfold VPre; trivial, by simp, (Clean.refl w).alloc _ _, (Below.refl _ _).alloc (Nat.le_refl _) _⟩
    rcases hin with h | ⟨b, o', e1, e2⟩
    · exact .inl h
    · exact .inr ⟨b, o', e1, by simpa using e2⟩
  case round =>
    obtain ⟨j, G, rfl, hd, hj, ⟨hs, hfG⟩, hG, hR, hP, hsz, hcl, hb⟩ := hrel
    have HCl : Hid (Clean w.heap.size wr) := hcl
    clear hcl
    cases G with
    | nil =>
      have hj' : j = F.len := by simpa [Vo.len] using hj
      clear hj hs hG H hd
      have HP : Hid (VPre (fun b => w.heap.size < b) wr w.heap.size F 0 j) := hP
      clear hP
      subst hj'
      go_wp2_with fail
      go_ret
      obtain ⟨F', h1, h2, h3⟩ := VPre.done F 0 F.len (Nat.le_refl _) HP.out
      refine ⟨⟨w.heap.size, F', ?_, Nat.le_refl _, h1, h2.mono (fun b hb => Nat.le_of_lt hb), h3, HCl.out⟩, hb⟩
      rw [Vo.alike_len h1]; rfl
    | cons h a' c' kids next =>
      rcases hG with hG | ⟨b, o', rfl, hfrom⟩
      · cases hG
      · obtain ⟨⟨h1, h2, h3, h4, h5, h6⟩, hk, ⟨hc1, hc2⟩, hh, hn⟩ := Vo.from_grow hb _ _ _ hfrom
        have hnw : next.From w b (o' + j * 6 + 6) := hfrom.2.2.2.2
        have hln : j + (next.len + 1) = F.len := hj
        have hlt : (j : Int) < (F.len : Int) := by omega
        have hjl : j < F.len := by omega
        have hss : kids.size + 1 + next.size ≤ F.size := hs
        obtain ⟨hf1, hf2, hf3⟩ := hfG
        have HD : Hid (F.drop j = .cons h a' c' kids next) := hd
        have HP : Hid (VPre (fun b => w.heap.size < b) wr w.heap.size F 0 j) := hP
        have HN : Hid (next.From w b (o' + j * 6 + 6) ∧ next.few 1100000) := ⟨hnw, hf3⟩
        clear hj hin hs hd hP hnw hn hfrom hf3
        go_wp2_with fail
        refine (H h a' c' kids wr (by omega) (by omega) hf2 hf1 hk hc1 hc2 hh).mono ?_
        rintro r w1 ⟨⟨nb, n2, F1, rfl, ⟨hnb, hn2⟩, hA, hB, hF1, hS1, hcl1⟩, hb1⟩
        have HC1 : Hid (Clean w.heap.size w1) := HCl.out.trans hb1 hcl1
        clear hcl1 HCl
        have hR1 := hR.grow hb1
        have hz1 := hb1.size
        have HP1 : Hid (VPre (fun b => w.heap.size < b) w1 w.heap.size F 0 j) := VPre.agree (fun b o v _ hv => (hb1.cell (p := ⟨b, o, none⟩) (World.block_lt_of_cell? wr _ hv)).trans hv) F 0 j (fun o v _ hv => (hb1.cell (p := ⟨_, o, none⟩) (World.block_lt_of_cell? wr _ hv)).trans hv) HP.out
        have hb2 := hb.trans (hb1.mono hb.size)
        obtain ⟨⟨v0, c0⟩, f0⟩ := hR1 (j * 6) (by omega)
        obtain ⟨⟨v1, c1⟩, f1⟩ := hR1 (j * 6 + 1) (by omega)
        obtain ⟨⟨v2, c2⟩, f2⟩ := hR1 (j * 6 + 2) (by omega)
        obtain ⟨⟨v3, c3⟩, f3⟩ := hR1 (j * 6 + 3) (by omega)
        obtain ⟨⟨v4, c4⟩, f4⟩ := hR1 (j * 6 + 4) (by omega)
        obtain ⟨⟨v5, c5⟩, f5⟩ := hR1 (j * 6 + 5) (by omega)
        have HHt : Hid ((h.ns.length ≤ maxLen) ∧ h.t.size ≤ maxLen) := ⟨Nat.le_trans hh.2.1.1 hh.2.1.2, hh.2.2⟩
        clear h1 h2 h3 h4 h5 h6 hk hR hb hb1 HP H hh
        have HF : Hid ((F1.alike kids ∧ F1.Blk (fun b => wr.heap.size ≤ b) ∧ F1.From w1 nb 0) ∧ SFrom w1 h.ns n2 0) := ⟨⟨hA, hB, hF1⟩, hS1⟩
        have hkl : kids.len ≤ kids.size := kids.len_le
        clear hA hB hF1 hS1
        go_wp2_with fail
        go_round
        case rel =>
          obtain ⟨⟨hA, hB, hF1⟩, hS1⟩ := HF.out
          have hl1 := Vo.alike_len hA
          have hP2 : VPre (fun b => w.heap.size < b) (put6 w1 w.heap.size (j * 6) (.int .i64 h.k) (.int .i64 h.m) (.int .i64 h.e) (.string h.t) (.slice (some ⟨nb, 0, none⟩) F1.len F1.len) (.slice (some ⟨n2, 0, none⟩) h.ns.length h.ns.length)) w.heap.size F 0 j :=
            VPre.agree (fun b o v hb hv => (put6_other (.inl (by omega))).trans hv) F 0 j (fun o v ho hv => (put6_other (.inr (.inl (by omega)))).trans hv) HP1.out
          have hcs : ∀ q, q < 6 → ∃ u, w1.cell? ⟨w.heap.size, j * 6 + q, none⟩ = some u := fun q hq => (hR1 (j * 6 + q) (by omega)).1
          have hC : VCop (fun b => w.heap.size < b) (put6 w1 w.heap.size (j * 6) (.int .i64 h.k) (.int .i64 h.m) (.int .i64 h.e) (.string h.t) (.slice (some ⟨nb, 0, none⟩) F1.len F1.len) (.slice (some ⟨n2, 0, none⟩) h.ns.length h.ns.length)) w.heap.size (0 + 6 * j) h kids := by
            rw [show 0 + 6 * j = j * 6 by omega]
            refine ⟨h.to n2, some ⟨nb, 0, none⟩, F1.len, F1, ⟨put6_cell hcs (i := 0) rfl, put6_cell hcs (i := 1) rfl, put6_cell hcs (i := 2) rfl, put6_cell hcs (i := 3) rfl, put6_cell hcs (i := 4) rfl, put6_cell hcs (i := 5) rfl⟩, .inr ⟨nb, 0, rfl, by omega, ?_⟩, hB.mono (fun b hb => by omega), hA, ⟨Nat.le_refl _, by rw [hl1]; unfold maxLen at *; omega⟩, ⟨.inr ⟨n2, 0, rfl, hS1.agree (P := fun b => w.heap.size < b) (fun b o v hb hv => (put6_other (.inl (by omega))).trans hv) (by omega)⟩, ⟨Nat.le_refl _, HHt.out.1⟩, HHt.out.2⟩, .inr ⟨n2, 0, rfl, by omega⟩, h.to_same n2⟩
            exact Vo.from_agree (P := fun b => w.heap.size < b) (fun b o v hb hv => (put6_other (.inl (by omega))).trans hv) F1 nb 0 (by omega) (hB.mono (fun b hb => by omega)) hF1
          refine ⟨j + 1, next, by go_num, Vo.drop_next HD.out, by omega, ⟨by omega, HN.out.2⟩, .inr ⟨b, o', rfl, ?_⟩, hR1.put6 _ _ _ _ _ _ _ _, VPre.snoc HD.out hP2 hC, ?_, HC1.out.put6 _ _ _ _ _ _ _ _, put6_below hb2 (Nat.le_refl _) _ _ _ _ _ _⟩
          · rw [show o' + (j + 1) * 6 = o' + j * 6 + 6 by omega]; exact HN.out.1
          · show w.heap.size < (put6 w1 w.heap.size (j * 6) _ _ _ _ _ _).heap.size
            rw [put6_size]; omega
        case measure => simp [intOf]; omega
end Go.Proofs.Ytpgpkdeiapeoiaa
/- Contracts over values: the laws' own copy of a value. -/
namespace Go.Proofs.Ytpgpkdeiapeoiaa
open Go.RowKit
attribute [local go_sem] cell_alloc_is frozen_alloc_is
set_option maxHeartbeats 1000000 in
theorem toValue_step (N : Nat) (H : ∀ (a : Option Addr) (c : Nat) (F : Vo) (w : World), F.size ≤ N → F.size ≤ 1100000 → F.few 1100000 → F.In w a → F.len ≤ c → c ≤ maxLen →
      Calls Try.prog 23 #[.slice a F.len c] w fun r w' => (∃ (nb : Nat) (F' : Vo), r = .returned (.slice (some ⟨nb, 0, none⟩) F'.len F'.len) ∧ w.heap.size ≤ nb ∧ F'.alike F ∧ F'.Blk (fun b => w.heap.size ≤ b) ∧ F'.From w' nb 0 ∧ Clean w.heap.size w') ∧ Below w.heap.size w w') :
    ∀ (h : Hd) (a : Option Addr) (c : Nat) (F : Vo) (w : World), F.size ≤ N → F.size ≤ 1100000 → F.few 1100000 → h.ns.length ≤ 1100000 → F.In w a → F.len ≤ c → c ≤ maxLen → h.In w →
      Calls Try.prog 9 #[valV h a F.len c] w fun r w' => CopV w w' h F r ∧ Below w.heap.size w w' := by
  intro h a c F w hF hF2 hfw hnl hin hl hc hh
  obtain ⟨W0, hW0⟩ : ∃ W0, W0 = ((w.alloc (.cells #[.int .i64 h.k, .int .i64 h.m, .int .i64 h.e, .string h.t, .slice a F.len c, .slice h.na h.ns.length h.nc] 27)).alloc (.cells #[.int .i64 0, .int .i64 0, .int .i64 0, .string ⟨#[]⟩, .slice none 0 0, .slice none 0 0] 33)).alloc (.cells #[.int .i64 h.k, .int .i64 0, .int .i64 0, .string ⟨#[]⟩, .slice none 0 0, .slice none 0 0] 33) := ⟨_, rfl⟩
  have hB0 : Below w.heap.size w W0 := by subst hW0; exact (by (repeat' (first | assumption | exact Below.refl _ _ | refine Below.alloc ?_ ?_ _ | refine Below.setCell ?_ ?_ _ | refine Below.drew ?_ | refine below_drewN ?_ _)) <;> (first | omega | (simp <;> omega)))
  have HC0 : Hid (Clean w.heap.size W0) := by unfold Hid; subst hW0; exact (((Clean.refl w).alloc _ _).alloc _ _).alloc _ _
  have hsz : W0.heap.size = w.heap.size + 1 + 1 + 1 := by subst hW0; simp
  have A0 : Row W0 w.heap.size [.int .i64 h.k, .int .i64 h.m, .int .i64 h.e, .string h.t, .slice a F.len c, .slice h.na h.ns.length h.nc] := by
    subst hW0
    exact ((Row.new w _ _).below ((Below.refl _ _).alloc (Nat.le_refl _) _) (by simp)).below ((Below.refl _ _).alloc (Nat.le_refl _) _) (by simp; omega)
  have B0 : Row W0 (w.heap.size + 1) [.int .i64 0, .int .i64 0, .int .i64 0, .string ⟨#[]⟩, .slice none 0 0, .slice none 0 0] := by
    subst hW0
    have := Row.new (w.alloc (.cells #[.int .i64 h.k, .int .i64 h.m, .int .i64 h.e, .string h.t, .slice a F.len c, .slice h.na h.ns.length h.nc] 27)) [.int .i64 0, .int .i64 0, .int .i64 0, .string ⟨#[]⟩, .slice none 0 0, .slice none 0 0] 33
    rw [World.size_alloc] at this
    exact this.below ((Below.refl _ _).alloc (Nat.le_refl _) _) (by simp)
  have C0 : Row W0 (w.heap.size + 1 + 1) [.int .i64 h.k, .int .i64 0, .int .i64 0, .string ⟨#[]⟩, .slice none 0 0, .slice none 0 0] := by
    subst hW0
    have := Row.new ((w.alloc (.cells #[.int .i64 h.k, .int .i64 h.m, .int .i64 h.e, .string h.t, .slice a F.len c, .slice h.na h.ns.length h.nc] 27)).alloc (.cells #[.int .i64 0, .int .i64 0, .int .i64 0, .string ⟨#[]⟩, .slice none 0 0, .slice none 0 0] 33)) [.int .i64 h.k, .int .i64 0, .int .i64 0, .string ⟨#[]⟩, .slice none 0 0, .slice none 0 0] 33
    rw [World.size_alloc, World.size_alloc] at this
    exact this
  have l1 : w.heap.size < W0.heap.size := by omega
  have l2 : w.heap.size + 1 < W0.heap.size := by omega
  have l3 : w.heap.size + 1 + 1 < W0.heap.size := by omega
  have HSZ : Hid (W0.heap.size = w.heap.size + 1 + 1 + 1) := hsz
  clear hsz
  go_enter Try.func9, Try.ntmps9
  go_wp2_with fail
  rw [← hW0]
  clear hW0
  refine (toDecC_any _ _ _).mono ?_
  rintro r w1 ⟨rfl, hb1, hcl1⟩
  have HC1 : Hid (Clean w.heap.size w1) := HC0.out.trans hb1 hcl1
  clear HC0 hcl1
  have A1 := A0.below hb1 l1
  have B1 := B0.below hb1 l2
  have C1 := C0.below hb1 l3
  have hB1 := hB0.trans (hb1.mono (Nat.le_of_lt l1))
  have hz1 := hb1.size
  clear A0 B0 C0 hB0 hb1
  have a3 := (A1 3 _ rfl).1
  have a4 := (A1 4 _ rfl).1
  obtain ⟨c1, g1⟩ := C1 1 _ rfl
  obtain ⟨c2, g2⟩ := C1 2 _ rfl
  obtain ⟨c3, g3⟩ := C1 3 _ rfl
  go_wp2_with fail
  obtain ⟨W2, hW2⟩ : ∃ W2, W2 = ((w1.setCell ⟨w.heap.size + 1 + 1, 1, none⟩ (.int .i64 h.m)).setCell ⟨w.heap.size + 1 + 1, 2, none⟩ (.int .i64 h.e)).setCell ⟨w.heap.size + 1 + 1, 3, none⟩ (.string h.t) := ⟨_, rfl⟩
  have A2 : Row W2 w.heap.size [.int .i64 h.k, .int .i64 h.m, .int .i64 h.e, .string h.t, .slice a F.len c, .slice h.na h.ns.length h.nc] := by rw [hW2]; exact ((A1.setOther (by omega) _ _).setOther (by omega) _ _).setOther (by omega) _ _
  have C2 : Row W2 (w.heap.size + 1 + 1) [.int .i64 h.k, .int .i64 h.m, .int .i64 h.e, .string h.t, .slice none 0 0, .slice none 0 0] := by rw [hW2]; exact ((C1.set (i := 1) (by simp) _).set (i := 2) (by simp) _).set (i := 3) (by simp) _
  have B2 : Row W2 (w.heap.size + 1) [.int .i64 0, .int .i64 0, .int .i64 0, .string ⟨#[]⟩, .slice none 0 0, .slice none 0 0] := by rw [hW2]; exact ((B1.setOther (by omega) _ _).setOther (by omega) _ _).setOther (by omega) _ _
  have hB2 : Below w.heap.size w W2 := by rw [hW2]; exact ((hB1.setCell (p := ⟨w.heap.size + 1 + 1, 1, none⟩) (by show _ ≤ _ + 1 + 1; omega) _).setCell (p := ⟨w.heap.size + 1 + 1, 2, none⟩) (by show _ ≤ _ + 1 + 1; omega) _).setCell (p := ⟨w.heap.size + 1 + 1, 3, none⟩) (by show _ ≤ _ + 1 + 1; omega) _
  have HC2 : Hid (Clean w.heap.size W2) := by unfold Hid; rw [hW2]; exact ((HC1.out.setCell _ _).setCell _ _).setCell _ _
  rw [← hW2]
  clear HC1
  clear hW2 a3 a4 c1 g1 c2 g2 c3 g3 A1 B1 C1 hB1
  refine (H a c F W2 hF hF2 hfw (hin.grow hB2) hl hc).mono ?_
  rintro r w3 ⟨⟨nb, F', rfl, hnb, hA, hK, hFr, hcl3⟩, hb3⟩
  have HC3 : Hid (Clean w.heap.size w3) := HC2.out.trans hb3 hcl3
  clear HC2 hcl3
  have lC := C2.lt
  have A3 := A2.below hb3 A2.lt
  have C3 := C2.below hb3 lC
  have B3 := B2.below hb3 B2.lt
  have hB3 := hB2.trans (hb3.mono hB2.size)
  have hz3 := hb3.size
  clear A2 B2 C2 hB2 hb3 H hin
  have a5 := (A3 5 _ rfl).1
  obtain ⟨c4, g4⟩ := C3 4 _ rfl
  go_wp2_with fail
  obtain ⟨W4, hW4⟩ : ∃ W4, W4 = w3.setCell ⟨w.heap.size + 1 + 1, 4, none⟩ (.slice (some ⟨nb, 0, none⟩) F'.len F'.len) := ⟨_, rfl⟩
  have C4 : Row W4 (w.heap.size + 1 + 1) [.int .i64 h.k, .int .i64 h.m, .int .i64 h.e, .string h.t, .slice (some ⟨nb, 0, none⟩) F'.len F'.len, .slice none 0 0] := by rw [hW4]; exact C3.set (i := 4) (by simp) _
  have B4 : Row W4 (w.heap.size + 1) [.int .i64 0, .int .i64 0, .int .i64 0, .string ⟨#[]⟩, .slice none 0 0, .slice none 0 0] := by rw [hW4]; exact B3.setOther (by omega) _ _
  have hB4 : Below w.heap.size w W4 := by rw [hW4]; exact hB3.setCell (p := ⟨w.heap.size + 1 + 1, 4, none⟩) (by show _ ≤ _ + 1 + 1; omega) _
  have HC4 : Hid (Clean w.heap.size W4) := by unfold Hid; rw [hW4]; exact HC3.out.setCell _ _
  have hF4 : F'.From W4 nb 0 := by
    refine Vo.from_agree (P := fun b => W2.heap.size ≤ b) (fun b o v hb hv => ?_) F' nb 0 hnb hK hFr
    rw [hW4]
    exact (World.cell?_setCell_other _ _ _ _ (fun e => by have : w.heap.size + 1 + 1 = b := by simpa using congrArg Addr.block e
                                                          omega)).trans hv
  have hsz4 : W2.heap.size ≤ W4.heap.size := by rw [hW4]; simpa [World.setCell] using hz3
  rw [← hW4]
  clear hW4 a5 c4 g4 A3 B3 C3 hB3 HC3 hFr
  have HF : Hid (F'.alike F ∧ F'.Blk (fun b => W2.heap.size ≤ b) ∧ F'.From W4 nb 0) := ⟨hA, hK, hF4⟩
  clear hA hK hF4
  refine (toStringS_any h.ns h.na h.nc W4 (hh.1.grow hB4) (by omega)).mono ?_
  rintro r w5 ⟨⟨n2, rfl, hn2, hS5, hcl5⟩, hb5⟩
  have HC5 : Hid (Clean w.heap.size w5) := HC4.out.trans hb5 hcl5
  have lC4 := C4.lt
  have C5 := C4.below hb5 lC4
  have B5 := B4.below hb5 B4.lt
  have hB5 := hB4.trans (hb5.mono hB4.size)
  have HF5 : Hid ((F'.alike F ∧ F'.Blk (fun b => W2.heap.size ≤ b) ∧ F'.From w5 nb 0) ∧ SFrom w5 h.ns n2 0) := ⟨⟨HF.out.1, HF.out.2.1, Vo.from_grow hb5 _ _ _ HF.out.2.2⟩, hS5⟩
  clear HF hS5 hcl5 HC4 B4 C4 hB4 hb5
  obtain ⟨c0, _⟩ := C5 0 _ rfl
  obtain ⟨c1, _⟩ := C5 1 _ rfl
  obtain ⟨c2, _⟩ := C5 2 _ rfl
  obtain ⟨c3, _⟩ := C5 3 _ rfl
  obtain ⟨c4, _⟩ := C5 4 _ rfl
  obtain ⟨c5, g5⟩ := C5 5 _ rfl
  obtain ⟨b0, e0⟩ := B5 0 _ rfl
  obtain ⟨b1, e1⟩ := B5 1 _ rfl
  obtain ⟨b2, e2⟩ := B5 2 _ rfl
  obtain ⟨b3, e3⟩ := B5 3 _ rfl
  obtain ⟨b4, e4⟩ := B5 4 _ rfl
  obtain ⟨b5, e5⟩ := B5 5 _ rfl
  have hne : ∀ o : Nat, ((w5.setCell ⟨w.heap.size + 1 + 1, 5, none⟩ (.slice (some ⟨n2, 0, none⟩) h.ns.length h.ns.length)).cell? ⟨w.heap.size + 1, o, none⟩) = w5.cell? ⟨w.heap.size + 1, o, none⟩ := fun o => World.cell?_setCell_other _ _ _ _ (by simp)
  go_wp2_with fail
  have hcs : ∀ q, q < 6 → ∃ u, (w5.setCell ⟨w.heap.size + 1 + 1, 5, none⟩ (.slice (some ⟨n2, 0, none⟩) h.ns.length h.ns.length)).cell? ⟨w.heap.size + 1, 0 + q, none⟩ = some u := fun q hq => by
    rw [hne, Nat.zero_add]
    have : q = 0 ∨ q = 1 ∨ q = 2 ∨ q = 3 ∨ q = 4 ∨ q = 5 := by omega
    rcases this with rfl | rfl | rfl | rfl | rfl | rfl
    · exact ⟨_, b0⟩
    · exact ⟨_, b1⟩
    · exact ⟨_, b2⟩
    · exact ⟨_, b3⟩
    · exact ⟨_, b4⟩
    · exact ⟨_, b5⟩
  obtain ⟨W6, hW6⟩ : ∃ W6, W6 = put6 (w5.setCell ⟨w.heap.size + 1 + 1, 5, none⟩ (.slice (some ⟨n2, 0, none⟩) h.ns.length h.ns.length)) (w.heap.size + 1) 0 (.int .i64 h.k) (.int .i64 h.m) (.int .i64 h.e) (.string h.t) (.slice (some ⟨nb, 0, none⟩) F'.len F'.len) (.slice (some ⟨n2, 0, none⟩) h.ns.length h.ns.length) := ⟨_, rfl⟩
  have p0 : W6.cell? ⟨w.heap.size + 1, 0, none⟩ = some (.int .i64 h.k) := by rw [hW6]; exact put6_cell hcs (i := 0) rfl
  have p1 : W6.cell? ⟨w.heap.size + 1, 1, none⟩ = some (.int .i64 h.m) := by rw [hW6]; exact put6_cell hcs (i := 1) rfl
  have p2 : W6.cell? ⟨w.heap.size + 1, 2, none⟩ = some (.int .i64 h.e) := by rw [hW6]; exact put6_cell hcs (i := 2) rfl
  have p3 : W6.cell? ⟨w.heap.size + 1, 3, none⟩ = some (.string h.t) := by rw [hW6]; exact put6_cell hcs (i := 3) rfl
  have p4 : W6.cell? ⟨w.heap.size + 1, 4, none⟩ = some (.slice (some ⟨nb, 0, none⟩) F'.len F'.len) := by rw [hW6]; exact put6_cell hcs (i := 4) rfl
  have p5 : W6.cell? ⟨w.heap.size + 1, 5, none⟩ = some (.slice (some ⟨n2, 0, none⟩) h.ns.length h.ns.length) := by rw [hW6]; exact put6_cell hcs (i := 5) rfl
  have hB6 : Below w.heap.size w W6 := by rw [hW6]; exact put6_below (hB5.setCell (p := ⟨w.heap.size + 1 + 1, 5, none⟩) (by show _ ≤ _ + 1 + 1; omega) _) (by omega) _ _ _ _ _ _
  have HC6 : Hid (Clean w.heap.size W6) := by unfold Hid; rw [hW6]; exact (HC5.out.setCell _ _).put6 _ _ _ _ _ _ _ _
  have hag : ∀ b o v, W2.heap.size ≤ b → w5.cell? ⟨b, o, none⟩ = some v → W6.cell? ⟨b, o, none⟩ = some v := fun b o v hb hv => by
    rw [hW6, put6_other (.inl (by omega))]
    exact (World.cell?_setCell_other _ _ _ _ (fun e => by have : w.heap.size + 1 + 1 = b := by simpa using congrArg Addr.block e
                                                          omega)).trans hv
  show bodyPost Try.prog Try.f9 _ Exit.ret _ (put6 (w5.setCell ⟨w.heap.size + 1 + 1, 5, none⟩ (.slice (some ⟨n2, 0, none⟩) h.ns.length h.ns.length)) (w.heap.size + 1) 0 (.int .i64 h.k) (.int .i64 h.m) (.int .i64 h.e) (.string h.t) (.slice (some ⟨nb, 0, none⟩) F'.len F'.len) (.slice (some ⟨n2, 0, none⟩) h.ns.length h.ns.length))
  rw [← hW6]
  obtain ⟨⟨hA, hK, hF5⟩, hS5⟩ := HF5.out
  refine bodyPost_ret (v := valV (h.to n2) (some ⟨nb, 0, none⟩) F'.len F'.len) (by simp [results, Try.results9, go_sem, p0, p1, p2, p3, p4, p5, Hd.to]) rfl ⟨⟨nb, n2, F', rfl, ⟨by omega, by omega⟩, hA, hK.mono (fun b hb => by omega), Vo.from_agree hag F' nb 0 hnb hK hF5, hS5.agree hag (by omega), HC6.out⟩, hB6⟩
theorem toValue_all (N : Nat) : ∀ (h : Hd) (a : Option Addr) (c : Nat) (F : Vo) (w : World), F.size < N → F.size ≤ 1100000 → F.few 1100000 → h.ns.length ≤ 1100000 → F.In w a → F.len ≤ c → c ≤ maxLen → h.In w →
      Calls Try.prog 9 #[valV h a F.len c] w fun r w' => CopV w w' h F r ∧ Below w.heap.size w w' := by
  induction N with
  | zero => intro h a c F w hF; omega
  | succ N ih => exact fun h a c F w hF h2 h3 h4 h5 h6 h7 h8 => toValue_step N (toValueS_step N ih) h a c F w (by omega) h2 h3 h4 h5 h6 h7 h8
end Go.Proofs.Ytpgpkdeiapeoiaa
/- Contracts over values: the laws' own comparison, of two values that are alike. -/
namespace Go.Proofs.Ytpgpkdeiapeoiaa
open Go.RowKit
attribute [local go_sem] cell_alloc_is frozen_alloc_is
/-- the six cells of a value, open -/
abbrev C6 (w : World) (b o : Nat) (h : Hd) (v : Value) : Prop :=
  w.cell? ⟨b, o, none⟩ = some (.int .i64 h.k) ∧ w.cell? ⟨b, o + 1, none⟩ = some (.int .i64 h.m) ∧ w.cell? ⟨b, o + 2, none⟩ = some (.int .i64 h.e) ∧ w.cell? ⟨b, o + 3, none⟩ = some (.string h.t) ∧ w.cell? ⟨b, o + 4, none⟩ = some v ∧ w.cell? ⟨b, o + 5, none⟩ = some (.slice h.na h.ns.length h.nc)
set_option maxRecDepth 100000 in
set_option maxHeartbeats 1000000 in
theorem ev6 {Q : Exit → Act → World → Prop} {t2 t3 t4 t6 t7 t8 t9 t10 t11 t12 t13 t14 t15 t16 t17 t18 t19 t20 t21 t22 t23 t24 t25 t26 : Value} {W : World} {b o n c b2 o2 n2 c2 j nx cx ny cy : Nat} {hx hy : Hd} {ax ay : Option Addr} {P : Bool → Prop}
    (hj : (j : Int) < (n : Int)) (hj2 : (j : Int) < (n2 : Int)) (h1 : Cells6 W b (o + j * 6) hx (.slice ax nx cx)) (h2 : Cells6 W b2 (o2 + j * 6) hy (.slice ay ny cy)) (hcall : ∀ W', Below W.heap.size W W' → Calls Try.prog 11 #[valV hx ax nx cx, valV hy ay ny cy] W' fun r w' => (∃ q : Bool, r = .returned (.bool q) ∧ P q) ∧ Below W'.heap.size W' w')
    (hp : ∀ p d v a w, Q (.panic p) (Act.put a d v) w → Q (.panic p) a w) (h : ∀ ws q v17 v18 v19 v20 v21 v22 v23 v24 v25, P q → Below W.heap.size W ws → Q .normal { tmps := ((.slice (some ⟨b, o, none⟩) n c) :: (.slice (some ⟨b2, o2, none⟩) n2 c2) :: t2 :: t3 :: t4 :: (.int .i64 (j : Nat)) :: t6 :: t7 :: t8 :: t9 :: t10 :: t11 :: t12 :: t13 :: t14 :: t15 :: t16 :: v17 :: v18 :: v19 :: v20 :: v21 :: v22 :: v23 :: v24 :: v25 :: .bool (!q) :: []).toArray, defers := [] } ws) :
    Code.wp Try.prog (Code.region 6 #[{ dst := some 17, op := Op.move (Operand.tmp 0), type := 31, pos := "exact.go:315", after := #[], guard := none }, { dst := some 18, op := Op.move (Operand.tmp 5), type := 3, pos := "exact.go:315", after := #[], guard := none }, { dst := some 19, op := Op.indexAddr 31 (Operand.tmp 17) (Operand.tmp 18), type := 0, pos := "exact.go:315", after := #[{ on := 0, ground := Ground.data }, { on := 1, ground := Ground.data }], guard := none }, { dst := some 20, op := Op.load 33 (Operand.tmp 19), type := 33, pos := "exact.go:315", after := #[{ on := 2, ground := Ground.data }], guard := none }, { dst := some 21, op := Op.move (Operand.tmp 1), type := 31, pos := "exact.go:315", after := #[], guard := none }, { dst := some 22, op := Op.move (Operand.tmp 5), type := 3, pos := "exact.go:315", after := #[], guard := none }, { dst := some 23, op := Op.indexAddr 31 (Operand.tmp 21) (Operand.tmp 22), type := 0, pos := "exact.go:315", after := #[{ on := 4, ground := Ground.data }, { on := 5, ground := Ground.data }], guard := none }, { dst := some 24, op := Op.load 33 (Operand.tmp 23), type := 33, pos := "exact.go:315", after := #[{ on := 6, ground := Ground.data }], guard := none }, { dst := some 25, op := Op.call { callee := Callee.value (Operand.func 11), args := #[Operand.tmp 20, Operand.tmp 24], argTypes := #[33, 33] }, type := 4, pos := "exact.go:315", after := #[{ on := 3, ground := Ground.data }, { on := 7, ground := Ground.data }], guard := none }, { dst := some 26, op := Op.unOp UnOp.not 4 (Operand.tmp 25), type := 4, pos := "exact.go:315", after := #[{ on := 8, ground := Ground.data }], guard := none }] true) Q { tmps := ((.slice (some ⟨b, o, none⟩) n c) :: (.slice (some ⟨b2, o2, none⟩) n2 c2) :: t2 :: t3 :: t4 :: (.int .i64 (j : Nat)) :: t6 :: t7 :: t8 :: t9 :: t10 :: t11 :: t12 :: t13 :: t14 :: t15 :: t16 :: t17 :: t18 :: t19 :: t20 :: t21 :: t22 :: t23 :: t24 :: t25 :: t26 :: []).toArray, defers := [] } W := by
  have HSof : Hid (∀ w', Below W.heap.size W w' → C6 w' b (o + j * 6) hx (.slice ax nx cx) ∧ C6 w' b2 (o2 + j * 6) hy (.slice ay ny cy)) := fun w' h => ⟨h1.grow h, h2.grow h⟩
  have hS0 := HSof.out _ ((Below.refl _ W).drew)
  clear h1 h2
  refine wp_region_held_drew (S := fun w' => C6 w' b (o + j * 6) hx (.slice ax nx cx) ∧ C6 w' b2 (o2 + j * 6) hy (.slice ay ny cy)) (by kernel_rfl) hS0 (fun hHeld => ?_)
  refine wpAnyH_take (i := 0) (v := .slice (some ⟨b, o, none⟩) n c) rfl (by kernel_rfl) (by kernel_rfl) (by kernel_rfl) (fun _ _ _ h => hp _ _ _ _ _ h) (Or.inl ⟨by rfl, ?_⟩) (by assumption) ?_
  · intro w hSw
    (try dsimp only at hSw)
    go_simp
  (try simp only [Act.put, List.getElem_toArray, List.getElem_cons_zero, List.setIfInBounds_toArray, List.set_cons_zero, List.set_cons_succ])
  refine wpAnyH_take (i := 1) (v := .int .i64 (j : Nat)) rfl (by kernel_rfl) (by kernel_rfl) (by kernel_rfl) (fun _ _ _ h => hp _ _ _ _ _ h) (Or.inl ⟨by rfl, ?_⟩) (by assumption) ?_
  · intro w hSw
    (try dsimp only at hSw)
    go_simp
  (try simp only [Act.put, List.getElem_toArray, List.getElem_cons_zero, List.getElem_cons_succ, List.setIfInBounds_toArray, List.set_cons_zero, List.set_cons_succ])
  refine wpAnyH_take (i := 2) (v := .pointer (some ⟨b, o + j * 6, none⟩)) rfl (by kernel_rfl) (by kernel_rfl) (by kernel_rfl) (fun _ _ _ h => hp _ _ _ _ _ h) (Or.inl ⟨by rfl, ?_⟩) (by assumption) ?_
  · intro w hSw
    (try dsimp only at hSw)
    go_simp
  (try simp only [Act.put, List.getElem_toArray, List.getElem_cons_zero, List.getElem_cons_succ, List.setIfInBounds_toArray, List.set_cons_zero, List.set_cons_succ])
  refine wpAnyH_take (i := 3) (v := valV hx ax nx cx) rfl (by kernel_rfl) (by kernel_rfl) (by kernel_rfl) (fun _ _ _ h => hp _ _ _ _ _ h) (Or.inl ⟨by rfl, ?_⟩) (by assumption) ?_
  · intro w hSw
    (try dsimp only at hSw)
    go_simp
  (try simp only [Act.put, List.getElem_toArray, List.getElem_cons_zero, List.getElem_cons_succ, List.setIfInBounds_toArray, List.set_cons_zero, List.set_cons_succ])
  refine wpAnyH_take (i := 4) (v := .slice (some ⟨b2, o2, none⟩) n2 c2) rfl (by kernel_rfl) (by kernel_rfl) (by kernel_rfl) (fun _ _ _ h => hp _ _ _ _ _ h) (Or.inl ⟨by rfl, ?_⟩) (by assumption) ?_
  · intro w hSw
    (try dsimp only at hSw)
    go_simp
  (try simp only [Act.put, List.getElem_toArray, List.getElem_cons_zero, List.getElem_cons_succ, List.setIfInBounds_toArray, List.set_cons_zero, List.set_cons_succ])
  refine wpAnyH_take (i := 5) (v := .int .i64 (j : Nat)) rfl (by kernel_rfl) (by kernel_rfl) (by kernel_rfl) (fun _ _ _ h => hp _ _ _ _ _ h) (Or.inl ⟨by rfl, ?_⟩) (by assumption) ?_
  · intro w hSw
    (try dsimp only at hSw)
    go_simp
  (try simp only [Act.put, List.getElem_toArray, List.getElem_cons_zero, List.getElem_cons_succ, List.setIfInBounds_toArray, List.set_cons_zero, List.set_cons_succ])
  refine wpAnyH_take (i := 6) (v := .pointer (some ⟨b2, o2 + j * 6, none⟩)) rfl (by kernel_rfl) (by kernel_rfl) (by kernel_rfl) (fun _ _ _ h => hp _ _ _ _ _ h) (Or.inl ⟨by rfl, ?_⟩) (by assumption) ?_
  · intro w hSw
    (try dsimp only at hSw)
    go_simp
  (try simp only [Act.put, List.getElem_toArray, List.getElem_cons_zero, List.getElem_cons_succ, List.setIfInBounds_toArray, List.set_cons_zero, List.set_cons_succ])
  refine wpAnyH_take (i := 7) (v := valV hy ay ny cy) rfl (by kernel_rfl) (by kernel_rfl) (by kernel_rfl) (fun _ _ _ h => hp _ _ _ _ _ h) (Or.inl ⟨by rfl, ?_⟩) (by assumption) ?_
  · intro w hSw
    (try dsimp only at hSw)
    go_simp
  (try simp only [Act.put, List.getElem_toArray, List.getElem_cons_zero, List.getElem_cons_succ, List.setIfInBounds_toArray, List.set_cons_zero, List.set_cons_succ])
  have hB0 := (Below.refl W.heap.size W).drew
  refine wpAnyH_ready (rs := [8]) (by kernel_rfl) (by simp) ?_
  refine AllReadyH.cons rfl (fun K hK => ?_) AllReadyH.nil
  go_simp
  refine (hcall _ hB0).mono ?_
  rintro r w1 ⟨⟨q, rfl, hq⟩, hb1⟩
  have hB1 := hB0.trans (hb1.mono hB0.size)
  have HQ : Hid (P q) := hq
  clear hq
  go_wp2_with fail
  refine hK.out _ _ (HSof.out _ hB1) (fun hHeld => ?_)
  clear hK K hB0 hb1 hcall
  refine wpAnyH_take (i := 9) (v := .bool (!q)) rfl (by kernel_rfl) (by kernel_rfl) (by kernel_rfl) (fun _ _ _ h => hp _ _ _ _ _ h) (Or.inl ⟨by rfl, ?_⟩) (by assumption) ?_
  · intro w hSw
    (try dsimp only at hSw)
    go_simp
  (try simp only [Act.put, List.getElem_toArray, List.getElem_cons_zero, List.getElem_cons_succ, List.setIfInBounds_toArray, List.set_cons_zero, List.set_cons_succ])
  refine wpAnyH_done (by kernel_rfl) ?_ _
  exact h _ _ _ _ _ _ _ _ _ _ _ HQ.out hB1
set_option maxHeartbeats 1000000 in
theorem eqValueS_step (N : Nat) (H : ∀ (h g : Hd) (a a2 : Option Addr) (c c2 : Nat) (F G : Vo) (w : World), F.size < N → F.alike G → h.same g → F.In w a → G.In w a2 → h.In w → g.In w → F.len ≤ c → c ≤ maxLen → G.len ≤ c2 → c2 ≤ maxLen →
      Calls Try.prog 11 #[valV h a F.len c, valV g a2 G.len c2] w fun r w' => r = .returned (.bool true) ∧ Below w.heap.size w w') :
    ∀ (a a2 : Option Addr) (c c2 : Nat) (F G : Vo) (w : World), F.size ≤ N → F.alike G → F.In w a → G.In w a2 → F.len ≤ c → c ≤ maxLen → G.len ≤ c2 → c2 ≤ maxLen →
      Calls Try.prog 30 #[.slice a F.len c, .slice a2 G.len c2] w fun r w' => r = .returned (.bool true) ∧ Below w.heap.size w w' := by
  intro a a2 c c2 F G w hF hA hin hin2 hl hc hl2 hc2
  have hgl := Vo.alike_len hA
  have hll := F.len_le
  unfold maxLen at hc hc2
  obtain ⟨n, hn⟩ : ∃ n, n = F.len := ⟨_, rfl⟩
  rw [← hgl, ← hn]
  rw [← hgl, ← hn] at hl2
  rw [← hn] at hl hll
  have hnF : Hid (n = F.len) := hn
  clear hn hgl
  go_enter Try.func30, Try.ntmps30
  go_wp2_with fail
  go_loopw [5] (fun i wr => ∃ (j : Nat) (A B : Vo), i = .int .i64 j ∧ j + A.len = n ∧ A.size ≤ F.size ∧ A.alike B ∧ (A = .nil ∨ ∃ b o', a = some ⟨b, o', none⟩ ∧ A.From wr b (o' + j * 6)) ∧ (B = .nil ∨ ∃ b o', a2 = some ⟨b, o', none⟩ ∧ B.From wr b (o' + j * 6)) ∧ Below w.heap.size w wr) (fun i _ => n - (intOf i).toNat)
  case atStart =>
    refine ⟨0, F, G, rfl, by have := hnF.out; omega, Nat.le_refl _, hA, ?_, ?_, Below.refl _ _⟩
    · rcases hin with h | ⟨b, o', e1, e2⟩
      · exact .inl h
      · exact .inr ⟨b, o', e1, by simpa using e2⟩
    · rcases hin2 with h | ⟨b, o', e1, e2⟩
      · exact .inl h
      · exact .inr ⟨b, o', e1, by simpa using e2⟩
  case round =>
    obtain ⟨j, A, B, rfl, hj, hs, hAB, hGA, hGB, hb⟩ := hrel
    cases B with
    | nil =>
      have e := Vo.alike_nil hAB
      subst e
      have hj' : j = n := by simpa [Vo.len] using hj
      subst hj'
      clear hj hs hGA hGB H hAB hin hin2 hA
      go_wp2_with fail
      go_ret
      exact ⟨rfl, hb⟩
    | cons g a' c' kids next =>
      obtain ⟨h, a1, c1, kids1, next1, rfl, hs1, hk1, hn1⟩ := Vo.alike_cons hAB
      rcases hGA with hG | ⟨b, o', rfl, hx, xk, ⟨xc1, xc2⟩, xh, xn⟩
      · cases hG
      rcases hGB with hG | ⟨b2, o2, rfl, hy, yk, ⟨yc1, yc2⟩, yh, yn⟩
      · cases hG
      have hln : j + (next1.len + 1) = n := hj
      have hlt : (j : Int) < (n : Int) := by omega
      have hjl : j < n := by omega
      have hss : kids1.size + 1 + next1.size ≤ F.size := hs
      have HX : Hid (next1.From wr b (o' + j * 6 + 6) ∧ next.From wr b2 (o2 + j * 6 + 6) ∧ next1.alike next) := ⟨xn, yn, hn1⟩
      have HC : Hid (∀ W', Below wr.heap.size wr W' → Calls Try.prog 11 #[valV h a1 kids1.len c1, valV g a' kids.len c'] W' fun r w' => (∃ q : Bool, r = .returned (.bool q) ∧ q = true) ∧ Below W'.heap.size W' w') := fun W' hW => by
        refine (H h g a1 a' c1 c' kids1 kids W' (by omega) hk1 hs1 (Vo.In.grow xk hW) (Vo.In.grow yk hW) (xh.grow hW) (yh.grow hW) xc1 xc2 yc1 yc2).mono ?_
        rintro r w' ⟨rfl, hb'⟩
        exact ⟨⟨true, rfl, rfl⟩, hb'⟩
      have HXY : Hid (Cells6 wr b (o' + j * 6) h (.slice a1 kids1.len c1) ∧ Cells6 wr b2 (o2 + j * 6) g (.slice a' kids.len c')) := ⟨hx, hy⟩
      clear hj hs hAB hin hin2 hA xn yn xk yk hk1 hn1 H hx hy xh yh hs1
      go_wp2_with fail
      refine ev6 hlt hlt HXY.out.1 HXY.out.2 HC.out (P := fun q => q = true) (fun _ d _ _ _ h => by cases d <;> exact h) ?_
      rintro w1 q v17 v18 v19 v20 v21 v22 v23 v24 v25 rfl hB1
      have hb2 := hb.trans (hB1.mono hb.size)
      clear HC HXY
      go_wp2_with fail
      go_round
      case rel =>
        obtain ⟨q1, q2, q3⟩ := HX.out
        refine ⟨j + 1, next1, next, by go_num, by omega, by omega, q3, .inr ⟨b, o', rfl, ?_⟩, .inr ⟨b2, o2, rfl, ?_⟩, hb2⟩
        · rw [show o' + (j + 1) * 6 = o' + j * 6 + 6 by omega]; exact Vo.from_grow hB1 _ _ _ q1
        · rw [show o2 + (j + 1) * 6 = o2 + j * 6 + 6 by omega]; exact Vo.from_grow hB1 _ _ _ q2
      case measure => simp [intOf]; omega
set_option maxHeartbeats 1000000 in
theorem eqValue_step (N : Nat) (H : ∀ (a a2 : Option Addr) (c c2 : Nat) (F G : Vo) (w : World), F.size ≤ N → F.alike G → F.In w a → G.In w a2 → F.len ≤ c → c ≤ maxLen → G.len ≤ c2 → c2 ≤ maxLen →
      Calls Try.prog 30 #[.slice a F.len c, .slice a2 G.len c2] w fun r w' => r = .returned (.bool true) ∧ Below w.heap.size w w') :
    ∀ (h g : Hd) (a a2 : Option Addr) (c c2 : Nat) (F G : Vo) (w : World), F.size ≤ N → F.alike G → h.same g → F.In w a → G.In w a2 → h.In w → g.In w → F.len ≤ c → c ≤ maxLen → G.len ≤ c2 → c2 ≤ maxLen →
      Calls Try.prog 11 #[valV h a F.len c, valV g a2 G.len c2] w fun r w' => r = .returned (.bool true) ∧ Below w.heap.size w w' := by
  intro h g a a2 c c2 F G w hF hA hsm hin hin2 hh hg hl hc hl2 hc2
  obtain ⟨k, m, e, t, na, nc, ns⟩ := h
  obtain ⟨k', m', e', t', na', nc', ns'⟩ := g
  obtain ⟨⟨hk, hm, he, htx⟩, hns⟩ := hsm
  dsimp only at hk hm he htx hns
  subst hk hm he htx hns
  have htt : (t.toList != t.toList) = false := by simp
  go_enter Try.func11, Try.ntmps11
  go_wp2_with fail
  obtain ⟨W0, hW0⟩ : ∃ W0, W0 = (w.alloc (.cells #[.int .i64 k, .int .i64 m, .int .i64 e, .string t, .slice a F.len c, .slice na ns.length nc] 33)).alloc (.cells #[.int .i64 k, .int .i64 m, .int .i64 e, .string t, .slice a2 G.len c2, .slice na' ns.length nc'] 33) := ⟨_, rfl⟩
  have hB0 : Below w.heap.size w W0 := by subst hW0; exact (by (repeat' (first | assumption | exact Below.refl _ _ | refine Below.alloc ?_ ?_ _ | refine Below.setCell ?_ ?_ _ | refine Below.drew ?_ | refine below_drewN ?_ _)) <;> (first | omega | (simp <;> omega)))
  have A0 : Row W0 w.heap.size [.int .i64 k, .int .i64 m, .int .i64 e, .string t, .slice a F.len c, .slice na ns.length nc] := by
    subst hW0
    exact (Row.new w _ _).below ((Below.refl _ _).alloc (Nat.le_refl _) _) (by simp)
  have C0 : Row W0 (w.heap.size + 1) [.int .i64 k, .int .i64 m, .int .i64 e, .string t, .slice a2 G.len c2, .slice na' ns.length nc'] := by
    subst hW0
    have := Row.new (w.alloc (.cells #[.int .i64 k, .int .i64 m, .int .i64 e, .string t, .slice a F.len c, .slice na ns.length nc] 33)) [.int .i64 k, .int .i64 m, .int .i64 e, .string t, .slice a2 G.len c2, .slice na' ns.length nc'] 33
    rw [World.size_alloc] at this
    exact this
  rw [← hW0]
  clear hW0
  refine (eqDec_any _ _ _ _ _).mono ?_
  rintro r w1 ⟨rfl, hb1⟩
  have A1 := A0.below hb1 A0.lt
  have C1 := C0.below hb1 C0.lt
  have hB1 := hB0.trans (hb1.mono hB0.size)
  have hq : (decide (m = m) && decide (e = e)) = true := by simp
  clear A0 C0 hB0 hb1
  have HK : Hid ((F.In w1 a ∧ G.In w1 a2) ∧ SIn w1 ns na ∧ SIn w1 ns na') := ⟨⟨hin.grow hB1, hin2.grow hB1⟩, hh.1.grow hB1, hg.1.grow hB1⟩
  have hnl : ns.length ≤ nc ∧ nc ≤ maxLen := hh.2.1
  have hnl2 : ns.length ≤ nc' := hg.2.1.1
  obtain ⟨hnl, hnm⟩ := hnl
  clear hin hin2 hh hg
  have a3 := (A1 3 _ rfl).1
  have a4 := (A1 4 _ rfl).1
  have x3 := (C1 3 _ rfl).1
  have x4 := (C1 4 _ rfl).1
  go_wp2_with fail
  refine (H a a2 c c2 F G w1 hF hA HK.out.1.1 HK.out.1.2 hl hc hl2 hc2).mono ?_
  rintro r w2 ⟨rfl, hb2⟩
  have hB2 := hB1.trans (hb2.mono hB1.size)
  have a5 := (A1.below hb2 A1.lt 5 _ rfl).1
  have x5 := (C1.below hb2 C1.lt 5 _ rfl).1
  have HK2 : Hid (SIn w2 ns na ∧ SIn w2 ns na') := ⟨HK.out.2.1.grow hb2, HK.out.2.2.grow hb2⟩
  clear H HK hb2 hB1 A1 C1 hA a3 a4 x3 x4
  go_wp2_with fail
  refine (eqStringS_any ns ns na na' nc nc' w2 HK2.out.1 HK2.out.2 hnl hnm hnl2).mono ?_
  rintro r w3 ⟨rfl, hb3⟩
  have hB3 := hB2.trans (hb3.mono hB2.size)
  rw [show decide (ns = ns) = true by simp]
  clear HK2 hb3 hB2 a5 x5
  go_wp2_with fail
  go_ret
  exact ⟨rfl, hB3⟩
theorem eqValue_all (N : Nat) : ∀ (h g : Hd) (a a2 : Option Addr) (c c2 : Nat) (F G : Vo) (w : World), F.size < N → F.alike G → h.same g → F.In w a → G.In w a2 → h.In w → g.In w → F.len ≤ c → c ≤ maxLen → G.len ≤ c2 → c2 ≤ maxLen →
      Calls Try.prog 11 #[valV h a F.len c, valV g a2 G.len c2] w fun r w' => r = .returned (.bool true) ∧ Below w.heap.size w w' := by
  induction N with
  | zero => intro h g a a2 c c2 F G w hF; omega
  | succ N ih => exact fun h g a a2 c c2 F G w hF => eqValue_step N (eqValueS_step N ih) h g a a2 c c2 F G w (by omega)
end Go.Proofs.Ytpgpkdeiapeoiaa
/- Contracts: words, l2Has, l2Letters, NameOk of both sides. -/
namespace Go.Proofs.Ytpgpkdeiapeoiaa
open Go.RowKit

set_option maxHeartbeats 1000000 in
theorem isWord_any (s : ByteArray) (w : World) :
    Calls Try.prog 128 #[.string s] w fun e w' => e = .returned (.bool (Qm.has Qm.words s.toList)) ∧ w' = w := by
  generalize hl : s.toList = l
  cases h : Qm.has Qm.words l
  · simp only [Qm.words, Qm.has, Bool.or_eq_false_iff] at h
    obtain ⟨a1, a2, a3, a4, a5, a6, a7, a8, a9, a10, a11, a12, a13, a14, a15, _⟩ := h
    go_enter Try.func128, Try.ntmps128
    go_wp2_with fail
    go_ret
    exact ⟨rfl, rfl⟩
  · have hm : l ∈ Qm.words := by
      simp only [Qm.words, Qm.has, Bool.or_eq_true, beq_iff_eq] at h
      simp only [Qm.words, List.mem_cons, List.not_mem_nil, or_false]
      rcases h with h | h | h | h | h | h | h | h | h | h | h | h | h | h | h | h
      all_goals first | exact absurd h (by simp) | (subst h; simp)
    clear h
    simp only [Qm.words, List.mem_cons, List.not_mem_nil, or_false] at hm
    rcases hm with h | h | h | h | h | h | h | h | h | h | h | h | h | h | h
    all_goals
      subst h
      go_enter Try.func128, Try.ntmps128
      go_wp2_with fail
      go_ret
      exact ⟨rfl, rfl⟩
end Go.Proofs.Ytpgpkdeiapeoiaa
