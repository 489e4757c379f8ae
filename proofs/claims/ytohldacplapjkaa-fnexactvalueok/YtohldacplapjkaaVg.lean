/- Values: what is read as a value, or as a list of values, is one: the argument of a law opened. -/
import Derived.Test.YtohldacplapjkaaVa
import Derived.Test.YtohldacplapjkaaFoO
import Derived.Deep.Slices
import Derived.OpenShut
namespace Go.Proofs.Ytohldacplapjkaa
open Go.RowKit Go.Deep Go.ChangeShapes Go.WideShapes
section
variable {H : Type} {enc : TypeId × Value → H} {W : World} {base : Nat} {spare : Nat → Bool} {held : Bool}
theorem cellsV : Try.prog.cellsOf 27 = 6 := by kernel_rfl
theorem cellsVs : Try.prog.cellsOf 24 = 1 := by kernel_rfl
theorem cellsSs : Try.prog.cellsOf 25 = 1 := by kernel_rfl
theorem list6 {α : Type} {cs : List α} (h : cs.length = 6) : ∃ c0 c1 c2 c3 c4 c5, cs = [c0, c1, c2, c3, c4, c5] := by
  match cs, h with
  | [c0, c1, c2, c3, c4, c5], _ => exact ⟨c0, c1, c2, c3, c4, c5, rfl⟩
theorem list5' {α : Type} {cs : List α} (h : cs.length = 5) : ∃ c0 c1 c2 c3 c4, cs = [c0, c1, c2, c3, c4] := by
  match cs, h with
  | [c0, c1, c2, c3, c4], _ => exact ⟨c0, c1, c2, c3, c4, rfl⟩
theorem open_strs {fuel : Nat} {cs : List Value} {x : DataW H × List MemPlace} (h : DataW.trod enc Try.prog W base spare held fuel 25 cs = some x) :
    ∃ (a : Option Addr) (ss : List ByteArray) (cap : Nat), cs = [.slice a ss.length cap] ∧ SIn W ss a ∧ ss.length ≤ cap ∧ cap ≤ maxLen := by
  rcases DataW.trod_slice Try.underlying25 h with ⟨rfl, _⟩ | ⟨a, len, cap, elems, rest, n, rfl, rfl, _, _, hl, hm, hlen, hel, _⟩
  · exact ⟨none, [], 0, rfl, .inl rfl, Nat.le_refl _, by unfold maxLen; omega⟩
  rw [cellsStr] at hel
  have key : ∀ i, i < len → ∃ t : ByteArray, t.size ≤ maxLen ∧ W.cell? (a.add i) = some (.string t) := by
    intro i hi
    have he := hel i hi
    rw [List.getElem?_eq_getElem (by omega)] at he
    obtain ⟨cs', h1, h2⟩ := Option.bind_eq_some_iff.1 he
    obtain ⟨t, e1, _, w1⟩ := DataW.trod_string Try.underlying9 h2
    subst e1
    obtain ⟨_, _, hc⟩ := World.cells?_some h1
    have h3 := hc 0 (by omega)
    refine ⟨t, w1, ?_⟩
    rw [add_add, Nat.mul_one, Nat.add_zero] at h3
    exact h3
  by_cases h0 : len = 0
  · subst h0
    exact ⟨some a, [], cap, rfl, .inl rfl, Nat.zero_le _, hm⟩
  obtain ⟨b, o, spot⟩ := a
  have hspot : spot = none := by
    obtain ⟨t, _, hc⟩ := key 0 (by omega)
    have := World.cell?_spot hc
    simpa [Addr.add] using this
  subst hspot
  have all : ∀ d i, i + d = len → ∃ ss : List ByteArray, ss.length = d ∧ SFrom W ss b (o + i) := by
    intro d
    induction d with
    | zero => intro i _; exact ⟨[], rfl, trivial⟩
    | succ d ihd =>
      intro i hi
      obtain ⟨t, h1, hc⟩ := key i (by omega)
      obtain ⟨ss, hs1, hs2⟩ := ihd (i + 1) (by omega)
      rw [add_none] at hc
      exact ⟨t :: ss, by rw [List.length_cons, hs1], hc, h1, by rw [show o + i + 1 = o + (i + 1) by omega]; exact hs2⟩
  obtain ⟨ss, hs1, hs2⟩ := all len 0 (by omega)
  subst hs1
  exact ⟨some ⟨b, o, none⟩, ss, cap, rfl, .inr ⟨b, o, rfl, by simpa using hs2⟩, hl, hm⟩
theorem open_val {fuel : Nat} {cs : List Value} {x : DataW H × List MemPlace} (h : DataW.trod enc Try.prog W base spare held fuel 27 cs = some x) :
    ∃ (hd : Hd) (v : Value) (y : DataW H × List MemPlace) (n : Nat), fuel = n + 1 ∧ cs = [.int .i64 hd.k, .int .i64 hd.m, .int .i64 hd.e, .string hd.t, v, .slice hd.na hd.ns.length hd.nc] ∧ hd.In W ∧
      DataW.trod enc Try.prog W base spare held n 24 [v] = some y := by
  obtain ⟨xs, n, rfl, _, hl, hxs, hf⟩ := DataW.trod_struct Try.underlying27 h
  rw [cellsV] at hl
  obtain ⟨c0, c1, c2, c3, c4, c5, rfl⟩ := list6 hl
  obtain ⟨y0, y1, y2, y3, y4, rfl⟩ := list5' (show xs.length = 5 from hxs)
  have h0 := hf 0 _ rfl
  have h1 := hf 1 _ rfl
  have h2 := hf 2 _ rfl
  have h3 := hf 3 _ rfl
  have h4 := hf 4 _ rfl
  simp [cellsInt, cellsStr, cellsDec, cellsVs, cellsSs] at h0 h1 h2 h3 h4
  obtain ⟨k, e0, _, w0⟩ := DataW.trod_int Try.underlying3 h0
  obtain ⟨m, e, e2, w2, w3⟩ := open_dec h1
  obtain ⟨t, e1, _, w1⟩ := DataW.trod_string Try.underlying9 h2
  obtain ⟨na, ns, nc, e4, i1, i2, i3⟩ := open_strs h4
  simp at e0 e1 e2 e4
  obtain ⟨rfl, rfl⟩ := e2
  subst e0 e1 e4
  exact ⟨⟨k, m, e, t, na, nc, ns⟩, c4, y3, n, rfl, rfl, ⟨i1, ⟨i2, i3⟩, w1⟩, h3⟩
theorem open_vals : ∀ (fuel : Nat) (cs : List Value) (x : DataW H × List MemPlace), DataW.trod enc Try.prog W base spare held fuel 24 cs = some x →
    ∃ (a : Option Addr) (F : Vo) (cap : Nat), cs = [.slice a F.len cap] ∧ F.In W a ∧ F.len ≤ cap ∧ cap ≤ maxLen := by
  intro fuel
  induction fuel using Nat.strongRecOn with
  | _ fuel ih =>
    intro cs x h
    rcases DataW.trod_slice Try.underlying24 h with ⟨rfl, _⟩ | ⟨a, len, cap, elems, rest, n, rfl, rfl, _, _, hl, hm, hlen, hel, _⟩
    · exact ⟨none, .nil, 0, rfl, .inl rfl, Nat.le_refl _, by unfold maxLen; omega⟩
    rw [cellsV] at hel
    have key : ∀ i, i < len → ∃ (hd : Hd) (a' : Option Addr) (F' : Vo) (c' : Nat), hd.In W ∧ F'.In W a' ∧ F'.len ≤ c' ∧ c' ≤ maxLen ∧
        (∀ j, j < 6 → W.cell? (a.add (i * 6 + j)) = ([.int .i64 hd.k, .int .i64 hd.m, .int .i64 hd.e, .string hd.t, .slice a' F'.len c', .slice hd.na hd.ns.length hd.nc] : List Value)[j]?) := by
      intro i hi
      have he := hel i hi
      rw [List.getElem?_eq_getElem (by omega)] at he
      obtain ⟨cs', h1, h2⟩ := Option.bind_eq_some_iff.1 he
      obtain ⟨hd, v, y, n', rfl, rfl, hh, h3⟩ := open_val h2
      obtain ⟨a', F', c', hv, hin, hc1, hc2⟩ := ih n' (by omega) _ _ h3
      simp at hv
      subst hv
      obtain ⟨_, _, hc⟩ := World.cells?_some h1
      refine ⟨hd, a', F', c', hh, hin, hc1, hc2, fun j hj => ?_⟩
      rw [← add_add]
      exact hc j hj
    by_cases h0 : len = 0
    · subst h0
      exact ⟨some a, .nil, cap, rfl, .inl rfl, Nat.zero_le _, hm⟩
    obtain ⟨b, o, spot⟩ := a
    have hspot : spot = none := by
      obtain ⟨hd, a', F', c', _, _, _, _, hc⟩ := key 0 (by omega)
      have := World.cell?_spot (hc 0 (by omega))
      simpa [Addr.add] using this
    subst hspot
    have all : ∀ d i, i + d = len → ∃ G : Vo, G.len = d ∧ G.From W b (o + i * 6) := by
      intro d
      induction d with
      | zero => intro i _; exact ⟨.nil, rfl, trivial⟩
      | succ d ihd =>
        intro i hi
        obtain ⟨hd, a', F', c', hh, hin, hc1, hc2, hc⟩ := key i (by omega)
        obtain ⟨G, hG1, hG2⟩ := ihd (i + 1) (by omega)
        have c0 := hc 0 (by omega)
        have c1 := hc 1 (by omega)
        have c2 := hc 2 (by omega)
        have c3 := hc 3 (by omega)
        have c4 := hc 4 (by omega)
        have c5 := hc 5 (by omega)
        simp only [add_none] at c0 c1 c2 c3 c4 c5
        refine ⟨.cons hd a' c' F' G, by show G.len + 1 = d + 1; omega, ⟨c0, c1, c2, c3, c4, c5⟩, hin, ⟨hc1, hc2⟩, hh, ?_⟩
        rw [show o + i * 6 + 6 = o + (i + 1) * 6 by omega]; exact hG2
    obtain ⟨F, hF1, hF2⟩ := all len 0 (by omega)
    subst hF1
    refine ⟨some ⟨b, o, none⟩, F, cap, rfl, .inr ⟨b, o, rfl, by simpa using hF2⟩, hl, hm⟩
set_option maxRecDepth 100000 in
/-- a value that comes in, opened -/
theorem open_value {r : Reach} {b0 : Nat} {v : Value} {d : DataW H} {p : List MemPlace} (hv : Value.okWide Try.prog W r b0 27 v) (h : DataW.Trod enc Try.prog W base spare held 27 v d p) :
    ∃ (hd : Hd) (a : Option Addr) (F : Vo) (c : Nat), v = valV hd a F.len c ∧ hd.In W ∧ F.In W a ∧ F.len ≤ c ∧ c ≤ maxLen := by
  obtain ⟨cs, rfl, _⟩ := okWide_struct Try.underlying27 hv
  obtain ⟨fuel, hf⟩ := h
  obtain ⟨hd, v, y, n, rfl, hc, hh, h3⟩ := open_val hf
  obtain ⟨a, F, c, hv, hin, hc1, hc2⟩ := open_vals n _ _ h3
  simp at hv
  subst hv
  have : cs = #[.int .i64 hd.k, .int .i64 hd.m, .int .i64 hd.e, .string hd.t, .slice a F.len c, .slice hd.na hd.ns.length hd.nc] := by
    cases cs
    simpa [Value.cells] using hc
  subst this
  exact ⟨hd, a, F, c, rfl, hh, hin, hc1, hc2⟩
end
end Go.Proofs.Ytohldacplapjkaa
