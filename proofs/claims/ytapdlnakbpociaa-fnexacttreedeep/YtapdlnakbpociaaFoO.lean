/- Trees: what is read as a tree, or as a list of trees, is one: the argument of a law opened. -/
import Derived.Test.YtapdlnakbpociaaFo
import Derived.Deep.Slices
import Derived.OpenShut
namespace Go.Proofs.Ytapdlnakbpociaa
open Go.RowKit Go.Deep Go.ChangeShapes Go.WideShapes
/-- all heads in it are such -/
def Fo.All (P : Int → ByteArray → Int → Int → Prop) : Fo → Prop
  | .nil => True
  | .cons k t m e _ _ kids next => P k t m e ∧ kids.All P ∧ next.All P
abbrev I64 (n : Int) : Prop := (Lit.int .i64 n).wf = true
/-- numbers that are numbers, texts that are no longer than texts can be -/
abbrev HeadOk (k : Int) (t : ByteArray) (m e : Int) : Prop := I64 k ∧ t.size ≤ maxLen ∧ I64 m ∧ I64 e
section
variable {H : Type} {enc : TypeId × Value → H} {W : World} {base : Nat} {spare : Nat → Bool} {held : Bool}
theorem cellsN : Try.prog.cellsOf 26 = 5 := by kernel_rfl
theorem cellsDec : Try.prog.cellsOf 23 = 2 := by kernel_rfl
theorem cellsInt : Try.prog.cellsOf 3 = 1 := by kernel_rfl
theorem cellsStr : Try.prog.cellsOf 9 = 1 := by kernel_rfl
theorem cellsNs : Try.prog.cellsOf 24 = 1 := by kernel_rfl
theorem list5 {α : Type} {cs : List α} (h : cs.length = 5) : ∃ c0 c1 c2 c3 c4, cs = [c0, c1, c2, c3, c4] := by
  match cs, h with
  | [c0, c1, c2, c3, c4], _ => exact ⟨c0, c1, c2, c3, c4, rfl⟩
theorem list4 {α : Type} {cs : List α} (h : cs.length = 4) : ∃ c0 c1 c2 c3, cs = [c0, c1, c2, c3] := by
  match cs, h with
  | [c0, c1, c2, c3], _ => exact ⟨c0, c1, c2, c3, rfl⟩
theorem list2 {α : Type} {cs : List α} (h : cs.length = 2) : ∃ c0 c1, cs = [c0, c1] := by
  match cs, h with
  | [c0, c1], _ => exact ⟨c0, c1, rfl⟩
theorem open_dec {fuel : Nat} {cs : List Value} {x : DataW H × List MemPlace} (h : DataW.trod enc Try.prog W base spare held fuel 23 cs = some x) :
    ∃ (m e : Int), cs = [.int .i64 m, .int .i64 e] ∧ I64 m ∧ I64 e := by
  obtain ⟨xs, n, rfl, _, hl, hxs, hf⟩ := DataW.trod_struct Try.underlying23 h
  rw [cellsDec] at hl
  obtain ⟨c0, c1, rfl⟩ := list2 hl
  obtain ⟨y0, y1, rfl⟩ := list2 (show xs.length = 2 from hxs)
  have h0 := hf 0 _ rfl
  have h1 := hf 1 _ rfl
  simp [cellsInt] at h0 h1
  obtain ⟨m, e0, _, w0⟩ := DataW.trod_int Try.underlying3 h0
  obtain ⟨e, e1, _, w1⟩ := DataW.trod_int Try.underlying3 h1
  simp at e0 e1
  subst e0 e1
  exact ⟨m, e, rfl, w0, w1⟩
theorem open_node {fuel : Nat} {cs : List Value} {x : DataW H × List MemPlace} (h : DataW.trod enc Try.prog W base spare held fuel 26 cs = some x) :
    ∃ (k : Int) (t : ByteArray) (m e : Int) (v : Value) (y : DataW H × List MemPlace) (n : Nat), fuel = n + 1 ∧ cs = [.int .i64 k, .string t, .int .i64 m, .int .i64 e, v] ∧ HeadOk k t m e ∧
      DataW.trod enc Try.prog W base spare held n 24 [v] = some y := by
  obtain ⟨xs, n, rfl, _, hl, hxs, hf⟩ := DataW.trod_struct Try.underlying26 h
  rw [cellsN] at hl
  obtain ⟨c0, c1, c2, c3, c4, rfl⟩ := list5 hl
  obtain ⟨y0, y1, y2, y3, rfl⟩ := list4 (show xs.length = 4 from hxs)
  have h0 := hf 0 _ rfl
  have h1 := hf 1 _ rfl
  have h2 := hf 2 _ rfl
  have h3 := hf 3 _ rfl
  simp [cellsInt, cellsStr, cellsDec, cellsNs] at h0 h1 h2 h3
  obtain ⟨k, e0, _, w0⟩ := DataW.trod_int Try.underlying3 h0
  obtain ⟨t, e1, _, w1⟩ := DataW.trod_string Try.underlying9 h1
  obtain ⟨m, e, e2, w2, w3⟩ := open_dec h2
  simp at e0 e1 e2
  obtain ⟨rfl, rfl⟩ := e2
  subst e0 e1
  exact ⟨k, t, m, e, c4, y3, n, rfl, rfl, ⟨w0, w1, w2, w3⟩, h3⟩
theorem add_none (b o i : Nat) : Addr.add ⟨b, o, none⟩ i = ⟨b, o + i, none⟩ := by
  by_cases hi0 : i = 0
  · subst hi0; simp [Addr.add]
  · simp [Addr.add, hi0]
theorem open_nodes : ∀ (fuel : Nat) (cs : List Value) (x : DataW H × List MemPlace), DataW.trod enc Try.prog W base spare held fuel 24 cs = some x →
    ∃ (a : Option Addr) (F : Fo) (cap : Nat), cs = [.slice a F.len cap] ∧ F.In W a ∧ F.len ≤ cap ∧ cap ≤ maxLen ∧ F.All HeadOk := by
  intro fuel
  induction fuel using Nat.strongRecOn with
  | _ fuel ih =>
    intro cs x h
    rcases DataW.trod_slice Try.underlying24 h with ⟨rfl, _⟩ | ⟨a, len, cap, elems, rest, n, rfl, rfl, _, _, hl, hm, hlen, hel, _⟩
    · exact ⟨none, .nil, 0, rfl, .inl rfl, Nat.le_refl _, by unfold maxLen; omega, trivial⟩
    rw [cellsN] at hel
    have key : ∀ i, i < len → ∃ (k : Int) (t : ByteArray) (m e : Int) (a' : Option Addr) (F' : Fo) (c' : Nat), HeadOk k t m e ∧ F'.In W a' ∧ F'.len ≤ c' ∧ c' ≤ maxLen ∧ F'.All HeadOk ∧
        (∀ j, j < 5 → W.cell? (a.add (i * 5 + j)) = ([.int .i64 k, .string t, .int .i64 m, .int .i64 e, .slice a' F'.len c'] : List Value)[j]?) := by
      intro i hi
      have he := hel i hi
      rw [List.getElem?_eq_getElem (by omega)] at he
      obtain ⟨cs', h1, h2⟩ := Option.bind_eq_some_iff.1 he
      obtain ⟨k, t, m, e, v, y, n', rfl, rfl, hh, h3⟩ := open_node h2
      obtain ⟨a', F', c', hv, hin, hc1, hc2, hA⟩ := ih n' (by omega) _ _ h3
      simp at hv
      subst hv
      obtain ⟨_, _, hc⟩ := World.cells?_some h1
      refine ⟨k, t, m, e, a', F', c', hh, hin, hc1, hc2, hA, fun j hj => ?_⟩
      rw [← add_add]
      exact hc j hj
    by_cases h0 : len = 0
    · subst h0
      exact ⟨some a, .nil, cap, rfl, .inl rfl, Nat.zero_le _, hm, trivial⟩
    obtain ⟨b, o, spot⟩ := a
    have hspot : spot = none := by
      obtain ⟨k, t, m, e, a', F', c', _, _, _, _, _, hc⟩ := key 0 (by omega)
      have := World.cell?_spot (hc 0 (by omega))
      simpa [Addr.add] using this
    subst hspot
    have all : ∀ d i, i + d = len → ∃ G : Fo, G.len = d ∧ G.From W b (o + i * 5) ∧ G.All HeadOk := by
      intro d
      induction d with
      | zero => intro i _; exact ⟨.nil, rfl, trivial, trivial⟩
      | succ d ihd =>
        intro i hi
        obtain ⟨k, t, m, e, a', F', c', hh, hin, hc1, hc2, hA, hc⟩ := key i (by omega)
        obtain ⟨G, hG1, hG2, hG3⟩ := ihd (i + 1) (by omega)
        have c0 := hc 0 (by omega)
        have c1 := hc 1 (by omega)
        have c2 := hc 2 (by omega)
        have c3 := hc 3 (by omega)
        have c4 := hc 4 (by omega)
        simp only [add_none] at c0 c1 c2 c3 c4
        refine ⟨.cons k t m e a' c' F' G, by show G.len + 1 = d + 1; omega, ⟨⟨c0, c1, c2, c3, c4⟩, hin, hc1, hc2, hh.2.1, ?_⟩, hh, hA, hG3⟩
        rw [show o + i * 5 + 5 = o + (i + 1) * 5 by omega]; exact hG2
    obtain ⟨F, hF1, hF2, hF3⟩ := all len 0 (by omega)
    subst hF1
    refine ⟨some ⟨b, o, none⟩, F, cap, rfl, .inr ⟨b, o, rfl, by simpa using hF2⟩, hl, hm, hF3⟩
set_option maxRecDepth 100000 in
/-- a tree that comes in, opened -/
theorem open_tree {r : Reach} {b0 : Nat} {v : Value} {d : DataW H} {p : List MemPlace} (hv : Value.okWide Try.prog W r b0 26 v) (h : DataW.Trod enc Try.prog W base spare held 26 v d p) :
    ∃ (k : Int) (t : ByteArray) (m e : Int) (a : Option Addr) (F : Fo) (c : Nat), v = nodeV k t m e a F.len c ∧ HeadOk k t m e ∧ F.In W a ∧ F.len ≤ c ∧ c ≤ maxLen ∧ F.All HeadOk := by
  obtain ⟨cs, rfl, _⟩ := okWide_struct Try.underlying26 hv
  obtain ⟨fuel, hf⟩ := h
  obtain ⟨k, t, m, e, v, y, n, rfl, hc, hh, h3⟩ := open_node hf
  obtain ⟨a, F, c, hv, hin, hc1, hc2, hA⟩ := open_nodes n _ _ h3
  simp at hv
  subst hv
  have : cs = #[.int .i64 k, .string t, .int .i64 m, .int .i64 e, .slice a F.len c] := by
    cases cs
    simpa [Value.cells] using hc
  subst this
  exact ⟨k, t, m, e, a, F, c, rfl, hh, hin, hc1, hc2, hA⟩
end
end Go.Proofs.Ytapdlnakbpociaa
