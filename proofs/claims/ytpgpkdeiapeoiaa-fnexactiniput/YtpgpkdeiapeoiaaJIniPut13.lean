/- My own texts, joined: Vg LawIni. -/
import Derived.Test.YtpgpkdeiapeoiaaJIniPut5
import Derived.Test.YtpgpkdeiapeoiaaJIniPut12
import Derived.Deep.Slices
import Derived.OpenShut
/- Values: what is read as a value, or as a list of values, is one: the argument of a law opened. -/
namespace Go.Proofs.Ytpgpkdeiapeoiaa
open Go.RowKit Go.Deep Go.ChangeShapes Go.WideShapes
section
variable {H : Type} {enc : TypeId × Value → H} {W : World} {base : Nat} {spare : Nat → Bool} {held : Bool}
theorem cellsV : Try.prog.cellsOf 27 = 6 := by kernel_rfl
theorem cellsVs : Try.prog.cellsOf 24 = 1 := by kernel_rfl
theorem cellsSs : Try.prog.cellsOf 25 = 1 := by kernel_rfl
theorem list6 {α : Type} {cs : List α} (h : cs.length = 6) : ∃ c0 c1 c2 c3 c4 c5, cs = [c0, c1, c2, c3, c4, c5] := by
  match cs, h with
  | [c0, c1, c2, c3, c4, c5], _ => exact ⟨c0, c1, c2, c3, c4, c5, rfl⟩
theorem list5' {α : Type} {cs : List α} (h : cs.length = 5) : ∃ c0 c1 c2 c3 c4, cs = [c0, c1, c2, c3, c4] := by
  match cs, h with
  | [c0, c1, c2, c3, c4], _ => exact ⟨c0, c1, c2, c3, c4, rfl⟩
theorem open_strs {fuel : Nat} {cs : List Value} {x : DataW H × List MemPlace} (h : DataW.trod enc Try.prog W base spare held fuel 25 cs = some x) :
    ∃ (a : Option Addr) (ss : List ByteArray) (cap : Nat), cs = [.slice a ss.length cap] ∧ SIn W ss a ∧ ss.length ≤ cap ∧ cap ≤ maxLen := by
  rcases DataW.trod_slice Try.underlying25 h with ⟨rfl, _⟩ | ⟨a, len, cap, elems, rest, n, rfl, rfl, _, _, hl, hm, hlen, hel, _⟩
  · exact ⟨none, [], 0, rfl, .inl rfl, Nat.le_refl _, by unfold maxLen; omega⟩
  rw [cellsStr] at hel
  have key : ∀ i, i < len → ∃ t : ByteArray, t.size ≤ maxLen ∧ W.cell? (a.add i) = some (.string t) := by
    intro i hi
    have he := hel i hi
    rw [List.getElem?_eq_getElem (by omega)] at he
    obtain ⟨cs', h1, h2⟩ := Option.bind_eq_some_iff.1 he
    obtain ⟨t, e1, _, w1⟩ := DataW.trod_string Try.underlying9 h2
    subst e1
    obtain ⟨_, _, hc⟩ := World.cells?_some h1
    have h3 := hc 0 (by omega)
    refine ⟨t, w1, ?_⟩
    rw [add_add, Nat.mul_one, Nat.add_zero] at h3
    exact h3
  by_cases h0 : len = 0
  · subst h0
    exact ⟨some a, [], cap, rfl, .inl rfl, Nat.zero_le _, hm⟩
  obtain ⟨b, o, spot⟩ := a
  have hspot : spot = none := by
    obtain ⟨t, _, hc⟩ := key 0 (by omega)
    have := World.cell?_spot hc
    simpa [Addr.add] using this
  subst hspot
  have all : ∀ d i, i + d = len → ∃ ss : List ByteArray, ss.length = d ∧ SFrom W ss b (o + i) := by
    intro d
    induction d with
    | zero => intro i _; exact ⟨[], rfl, trivial⟩
    | succ d ihd =>
      intro i hi
      obtain ⟨t, h1, hc⟩ := key i (by omega)
      obtain ⟨ss, hs1, hs2⟩ := ihd (i + 1) (by omega)
      rw [add_none] at hc
      exact ⟨t :: ss, by rw [List.length_cons, hs1], hc, h1, by rw [show o + i + 1 = o + (i + 1) by omega]; exact hs2⟩
  obtain ⟨ss, hs1, hs2⟩ := all len 0 (by omega)
  subst hs1
  exact ⟨some ⟨b, o, none⟩, ss, cap, rfl, .inr ⟨b, o, rfl, by simpa using hs2⟩, hl, hm⟩
theorem open_val {fuel : Nat} {cs : List Value} {x : DataW H × List MemPlace} (h : DataW.trod enc Try.prog W base spare held fuel 27 cs = some x) :
    ∃ (hd : Hd) (v : Value) (y : DataW H × List MemPlace) (n : Nat), fuel = n + 1 ∧ cs = [.int .i64 hd.k, .int .i64 hd.m, .int .i64 hd.e, .string hd.t, v, .slice hd.na hd.ns.length hd.nc] ∧ hd.In W ∧
      DataW.trod enc Try.prog W base spare held n 24 [v] = some y := by
  obtain ⟨xs, n, rfl, _, hl, hxs, hf⟩ := DataW.trod_struct Try.underlying27 h
  rw [cellsV] at hl
  obtain ⟨c0, c1, c2, c3, c4, c5, rfl⟩ := list6 hl
  obtain ⟨y0, y1, y2, y3, y4, rfl⟩ := list5' (show xs.length = 5 from hxs)
  have h0 := hf 0 _ rfl
  have h1 := hf 1 _ rfl
  have h2 := hf 2 _ rfl
  have h3 := hf 3 _ rfl
  have h4 := hf 4 _ rfl
  simp [cellsInt, cellsStr, cellsDec, cellsVs, cellsSs] at h0 h1 h2 h3 h4
  obtain ⟨k, e0, _, w0⟩ := DataW.trod_int Try.underlying3 h0
  obtain ⟨m, e, e2, w2, w3⟩ := open_dec h1
  obtain ⟨t, e1, _, w1⟩ := DataW.trod_string Try.underlying9 h2
  obtain ⟨na, ns, nc, e4, i1, i2, i3⟩ := open_strs h4
  simp at e0 e1 e2 e4
  obtain ⟨rfl, rfl⟩ := e2
  subst e0 e1 e4
  exact ⟨⟨k, m, e, t, na, nc, ns⟩, c4, y3, n, rfl, rfl, ⟨i1, ⟨i2, i3⟩, w1⟩, h3⟩
theorem open_vals : ∀ (fuel : Nat) (cs : List Value) (x : DataW H × List MemPlace), DataW.trod enc Try.prog W base spare held fuel 24 cs = some x →
    ∃ (a : Option Addr) (F : Vo) (cap : Nat), cs = [.slice a F.len cap] ∧ F.In W a ∧ F.len ≤ cap ∧ cap ≤ maxLen := by
  intro fuel
  induction fuel using Nat.strongRecOn with
  | _ fuel ih =>
    intro cs x h
    rcases DataW.trod_slice Try.underlying24 h with ⟨rfl, _⟩ | ⟨a, len, cap, elems, rest, n, rfl, rfl, _, _, hl, hm, hlen, hel, _⟩
    · exact ⟨none, .nil, 0, rfl, .inl rfl, Nat.le_refl _, by unfold maxLen; omega⟩
    rw [cellsV] at hel
    have key : ∀ i, i < len → ∃ (hd : Hd) (a' : Option Addr) (F' : Vo) (c' : Nat), hd.In W ∧ F'.In W a' ∧ F'.len ≤ c' ∧ c' ≤ maxLen ∧
        (∀ j, j < 6 → W.cell? (a.add (i * 6 + j)) = ([.int .i64 hd.k, .int .i64 hd.m, .int .i64 hd.e, .string hd.t, .slice a' F'.len c', .slice hd.na hd.ns.length hd.nc] : List Value)[j]?) := by
      intro i hi
      have he := hel i hi
      rw [List.getElem?_eq_getElem (by omega)] at he
      obtain ⟨cs', h1, h2⟩ := Option.bind_eq_some_iff.1 he
      obtain ⟨hd, v, y, n', rfl, rfl, hh, h3⟩ := open_val h2
      obtain ⟨a', F', c', hv, hin, hc1, hc2⟩ := ih n' (by omega) _ _ h3
      simp at hv
      subst hv
      obtain ⟨_, _, hc⟩ := World.cells?_some h1
      refine ⟨hd, a', F', c', hh, hin, hc1, hc2, fun j hj => ?_⟩
      rw [← add_add]
      exact hc j hj
    by_cases h0 : len = 0
    · subst h0
      exact ⟨some a, .nil, cap, rfl, .inl rfl, Nat.zero_le _, hm⟩
    obtain ⟨b, o, spot⟩ := a
    have hspot : spot = none := by
      obtain ⟨hd, a', F', c', _, _, _, _, hc⟩ := key 0 (by omega)
      have := World.cell?_spot (hc 0 (by omega))
      simpa [Addr.add] using this
    subst hspot
    have all : ∀ d i, i + d = len → ∃ G : Vo, G.len = d ∧ G.From W b (o + i * 6) := by
      intro d
      induction d with
      | zero => intro i _; exact ⟨.nil, rfl, trivial⟩
      | succ d ihd =>
        intro i hi
        obtain ⟨hd, a', F', c', hh, hin, hc1, hc2, hc⟩ := key i (by omega)
        obtain ⟨G, hG1, hG2⟩ := ihd (i + 1) (by omega)
        have c0 := hc 0 (by omega)
        have c1 := hc 1 (by omega)
        have c2 := hc 2 (by omega)
        have c3 := hc 3 (by omega)
        have c4 := hc 4 (by omega)
        have c5 := hc 5 (by omega)
        simp only [add_none] at c0 c1 c2 c3 c4 c5
        refine ⟨.cons hd a' c' F' G, by show G.len + 1 = d + 1; omega, ⟨c0, c1, c2, c3, c4, c5⟩, hin, ⟨hc1, hc2⟩, hh, ?_⟩
        rw [show o + i * 6 + 6 = o + (i + 1) * 6 by omega]; exact hG2
    obtain ⟨F, hF1, hF2⟩ := all len 0 (by omega)
    subst hF1
    refine ⟨some ⟨b, o, none⟩, F, cap, rfl, .inr ⟨b, o, rfl, by simpa using hF2⟩, hl, hm⟩
set_option maxRecDepth 100000 in
/-- a value that comes in, opened -/
theorem open_value {r : Reach} {b0 : Nat} {v : Value} {d : DataW H} {p : List MemPlace} (hv : Value.okWide Try.prog W r b0 27 v) (h : DataW.Trod enc Try.prog W base spare held 27 v d p) :
    ∃ (hd : Hd) (a : Option Addr) (F : Vo) (c : Nat), v = valV hd a F.len c ∧ hd.In W ∧ F.In W a ∧ F.len ≤ c ∧ c ≤ maxLen := by
  obtain ⟨cs, rfl, _⟩ := okWide_struct Try.underlying27 hv
  obtain ⟨fuel, hf⟩ := h
  obtain ⟨hd, v, y, n, rfl, hc, hh, h3⟩ := open_val hf
  obtain ⟨a, F, c, hv, hin, hc1, hc2⟩ := open_vals n _ _ h3
  simp at hv
  subst hv
  have : cs = #[.int .i64 hd.k, .int .i64 hd.m, .int .i64 hd.e, .string hd.t, .slice a F.len c, .slice hd.na hd.ns.length hd.nc] := by
    cases cs
    simpa [Value.cells] using hc
  subst this
  exact ⟨hd, a, F, c, rfl, hh, hin, hc1, hc2⟩
end
end Go.Proofs.Ytpgpkdeiapeoiaa
/- The law FnExactIniPut walked. -/
namespace Go.Proofs.Ytpgpkdeiapeoiaa
open Go.RowKit
set_option maxRecDepth 100000 in
set_option maxHeartbeats 1000000 in
theorem ipl10 {Q : Exit → Act → World → Prop} {t0 t2 t3 t4 t5 t7 t8 t9 t10 t11 t12 t13 t14 t15 t16 t17 t18 t19 t20 t21 t22 t23 t24 t25 t26 t27 t28 t29 t30 t31 t32 t33 t34 t35 t36 t37 t38 t39 : Value} {W : World} {b bx nb n2 : Nat} {F2 : Vo} {hd : Hd} {a : Option Addr} {F : Vo} {c : Nat}
    (hA : BxV b hd (.slice a F.len c) W) (hX : BxV bx (hd.to n2) (.slice (some ⟨nb, 0, none⟩) F2.len F2.len) W) (hin : F.In W a) (hF2 : F2.From W nb 0) (hi2 : (hd.to n2).In W) (ha : F2.alike F) (hl : F.len ≤ c) (hc : c ≤ maxLen) (hh : hd.In W) (hs : F.wt ≤ 1048576) (hsn : hd.ns.length ≤ 1048576)
    (hp : ∀ p d v a w, Q (.panic p) (Act.put a d v) w → Q (.panic p) a w) (h : ∀ ws v35 v36 v37 v38, Below W.heap.size W ws → Q .normal { tmps := (t0 :: .pointer (some ⟨b, 0, none⟩) :: t2 :: t3 :: t4 :: t5 :: .pointer (some ⟨bx, 0, none⟩) :: t7 :: t8 :: t9 :: t10 :: t11 :: t12 :: t13 :: t14 :: t15 :: t16 :: t17 :: t18 :: t19 :: t20 :: t21 :: t22 :: t23 :: t24 :: t25 :: t26 :: t27 :: t28 :: t29 :: t30 :: t31 :: t32 :: t33 :: t34 :: v35 :: v36 :: v37 :: v38 :: .bool false :: []).toArray, defers := [] } ws) :
    Code.wp Try.prog (Code.region 10 #[{ dst := some 35, op := Op.load 33 (Operand.tmp 6), type := 33, pos := "exact.go:1059", after := #[], guard := none }, { dst := some 36, op := Op.load 27 (Operand.tmp 1), type := 27, pos := "exact.go:1059", after := #[], guard := none }, { dst := some 37, op := Op.call { callee := Callee.value (Operand.func 9), args := #[Operand.tmp 36], argTypes := #[27] }, type := 33, pos := "exact.go:1059", after := #[{ on := 1, ground := Ground.data }], guard := none }, { dst := some 38, op := Op.call { callee := Callee.value (Operand.func 11), args := #[Operand.tmp 35, Operand.tmp 37], argTypes := #[33, 33] }, type := 4, pos := "exact.go:1059", after := #[{ on := 0, ground := Ground.data }, { on := 2, ground := Ground.data }, { on := 2, ground := Ground.chain }], guard := none }, { dst := some 39, op := Op.unOp UnOp.not 4 (Operand.tmp 38), type := 4, pos := "exact.go:1059", after := #[{ on := 3, ground := Ground.data }], guard := none }] true) Q { tmps := (t0 :: .pointer (some ⟨b, 0, none⟩) :: t2 :: t3 :: t4 :: t5 :: .pointer (some ⟨bx, 0, none⟩) :: t7 :: t8 :: t9 :: t10 :: t11 :: t12 :: t13 :: t14 :: t15 :: t16 :: t17 :: t18 :: t19 :: t20 :: t21 :: t22 :: t23 :: t24 :: t25 :: t26 :: t27 :: t28 :: t29 :: t30 :: t31 :: t32 :: t33 :: t34 :: t35 :: t36 :: t37 :: t38 :: t39 :: []).toArray, defers := [] } W := by
  have HSof : Hid (∀ w', Below W.heap.size W w' → (BxV b hd (.slice a F.len c) w' ∧ BxV bx (hd.to n2) (.slice (some ⟨nb, 0, none⟩) F2.len F2.len) w')) := fun w' h => ⟨hA.below h, hX.below h⟩
  have HI : Hid (∀ w', Below W.heap.size W w' → (F.In w' a ∧ F2.From w' nb 0) ∧ hd.In w' ∧ (hd.to n2).In w') := fun w' h => ⟨⟨hin.grow h, Vo.from_grow h F2 _ _ hF2⟩, hh.grow h, hi2.grow h⟩
  have hS0 := HSof.out _ ((Below.refl _ W).drew)
  clear hA hX hin hF2
  refine wp_region_held_drew (S := fun w' => BxV b hd (.slice a F.len c) w' ∧ BxV bx (hd.to n2) (.slice (some ⟨nb, 0, none⟩) F2.len F2.len) w') (by kernel_rfl) hS0 (fun hHeld => ?_)
  refine wpAnyH_take (i := 0) (v := valV (hd.to n2) (some ⟨nb, 0, none⟩) F2.len F2.len) rfl (by kernel_rfl) (by kernel_rfl) (by kernel_rfl) (fun _ _ _ h => hp _ _ _ _ _ h) (Or.inl ⟨by rfl, ?_⟩) (by assumption) ?_
  · intro w hSw
    (try dsimp only at hSw)
    go_simp
  (try simp only [Act.put, List.getElem_toArray, List.getElem_cons_zero, List.setIfInBounds_toArray, List.set_cons_zero, List.set_cons_succ])
  refine wpAnyH_take (i := 1) (v := valV hd a F.len c) rfl (by kernel_rfl) (by kernel_rfl) (by kernel_rfl) (fun _ _ _ h => hp _ _ _ _ _ h) (Or.inl ⟨by rfl, ?_⟩) (by assumption) ?_
  · intro w hSw
    (try dsimp only at hSw)
    go_simp
  (try simp only [Act.put, List.getElem_toArray, List.getElem_cons_zero, List.getElem_cons_succ, List.setIfInBounds_toArray, List.set_cons_zero, List.set_cons_succ])
  have hB0 := (Below.refl W.heap.size W).drew
  refine wpAnyH_ready (rs := [2]) (by kernel_rfl) (by simp) ?_
  refine AllReadyH.cons rfl (fun K hK => ?_) AllReadyH.nil
  go_simp
  refine (toValue_any hd a c F _ hs hsn (HI.out _ hB0).1.1 hl hc (HI.out _ hB0).2.1).mono ?_
  rintro r w1 ⟨⟨nb1, m1, F1, rfl, ha1, hF1, hi1, _⟩, hb1⟩
  have HI1 : Hid ((hd.to m1).In w1) := hi1
  clear hi1
  have hB1 := hB0.trans (hb1.mono hB0.size)
  go_wp2_with fail
  refine hK.out _ _ (HSof.out _ hB1) (fun hHeld => ?_)
  clear hK K hB0 hb1
  have hl1 : F1.len ≤ maxLen := by rw [Vo.alike_len ha1]; exact Nat.le_trans hl hc
  have hl2 : F2.len ≤ maxLen := by rw [Vo.alike_len ha]; exact Nat.le_trans hl hc
  have ha21 := Vo.alike_trans ha (Vo.alike_sym ha1)
  refine wpAnyH_ready (rs := [3]) (by kernel_rfl) (by simp) ?_
  refine AllReadyH.cons rfl (fun K hK => ?_) AllReadyH.nil
  go_simp
  refine (eqValue_all (F2.size + 1) (hd.to n2) (hd.to m1) (some ⟨nb, 0, none⟩) (some ⟨nb1, 0, none⟩) F2.len F1.len F2 F1 _ (by omega) ha21 ⟨⟨rfl, rfl, rfl, rfl⟩, rfl⟩ (.inr ⟨nb, 0, rfl, (HI.out _ hB1).1.2⟩) (.inr ⟨nb1, 0, rfl, hF1⟩) (HI.out _ hB1).2.2 HI1.out (Nat.le_refl _) hl2 (Nat.le_refl _) hl1).mono ?_
  rintro r w2 ⟨rfl, hb2⟩
  have hB2 := hB1.trans (hb2.mono hB1.size)
  go_wp2_with fail
  refine hK.out _ _ (HSof.out _ hB2) (fun hHeld => ?_)
  clear hK K hb2
  refine wpAnyH_take (i := 4) (v := .bool false) rfl (by kernel_rfl) (by kernel_rfl) (by kernel_rfl) (fun _ _ _ h => hp _ _ _ _ _ h) (Or.inl ⟨by rfl, ?_⟩) (by assumption) ?_
  · intro w hSw
    (try dsimp only at hSw)
    go_simp
  (try simp only [Act.put, List.getElem_toArray, List.getElem_cons_zero, List.getElem_cons_succ, List.setIfInBounds_toArray, List.set_cons_zero, List.set_cons_succ])
  refine wpAnyH_done (by kernel_rfl) ?_ _
  exact h _ _ _ _ _ hB2
set_option maxRecDepth 100000 in
set_option maxHeartbeats 2000000 in
theorem walk_FnExactIniPut (hd : Hd) (a : Option Addr) (F : Vo) (c : Nat) (w : World) (hh : hd.In w) (hin : F.In w a) (hl : F.len ≤ c) (hc : c ≤ maxLen) :
    Calls Try.prog 6 #[valV hd a F.len c] w fun r w' => r = .returned (.bool true) ∧ Below w.heap.size w w' := by
  have hsw := len_sWt hd.ns
  have hBp : Below w.heap.size w (w.alloc (.cells #[.int .i64 hd.k, .int .i64 hd.m, .int .i64 hd.e, .string hd.t, .slice a F.len c, .slice hd.na hd.ns.length hd.nc] 27)) := (Below.refl _ w).alloc (Nat.le_refl _) _
  have hAp : BxV w.heap.size hd (.slice a F.len c) (w.alloc (.cells #[.int .i64 hd.k, .int .i64 hd.m, .int .i64 hd.e, .string hd.t, .slice a F.len c, .slice hd.na hd.ns.length hd.nc] 27)) := BxV.new w hd (.slice a F.len c) 27
  go_enter Try.func6, Try.ntmps6
  obtain ⟨wp, hwp⟩ : ∃ wp, w.alloc (.cells #[.int .i64 hd.k, .int .i64 hd.m, .int .i64 hd.e, .string hd.t, .slice a F.len c, .slice hd.na hd.ns.length hd.nc] 27) = wp := ⟨_, rfl⟩
  rw [hwp] at hBp hAp
  have HX : Hid (∀ W, Below wp.heap.size wp W → BxV w.heap.size hd (.slice a F.len c) W) := fun W h => hAp.below h
  have HI : Hid (∀ W, Below wp.heap.size wp W → F.In W a ∧ hd.In W) := fun W h => ⟨hin.grow (hBp.trans (h.mono hBp.size)), hh.grow (hBp.trans (h.mono hBp.size))⟩
  have HB : Hid (∀ W, Below wp.heap.size wp W → Below w.heap.size w W) := fun W h => hBp.trans (h.mono hBp.size)
  have hB0 := Below.refl wp.heap.size wp
  have hwp' := hwp.symm
  clear hwp hin hAp hBp hh
  obtain ⟨x0, x1, x2, x3, x4, x5⟩ := HX.out _ hB0
  go_wp2_with fail
  rw [← hwp']
  clear hwp'
  refine (szValue_any hd a c F wp 1048576 (HI.out _ hB0).1 hl hc (HI.out _ hB0).2 (by omega)).mono ?_
  rintro r w1 ⟨rfl, hb1⟩
  have hB1 := hb1
  clear x0 x1 x2 x3 x4 x5
  obtain ⟨x0, x1, x2, x3, x4, x5⟩ := HX.out _ hB1
  clear hb1 hB0
  by_cases hneed : hd.t.size + F.wt + sWt hd.ns ≤ 1048576
  case neg =>
    have hd : leftOf (hd.t.size + F.wt + sWt hd.ns) 1048576 = -1 := by unfold leftOf; rw [if_neg hneed]
    rw [hd]
    go_wp2_with fail
    go_ret
    exact ⟨rfl, HB.out _ hB1⟩
  obtain ⟨d, hd', hdd⟩ : ∃ d : Nat, leftOf (hd.t.size + F.wt + sWt hd.ns) 1048576 = (d : Int) ∧ d ≤ 1048576 := ⟨1048576 - (hd.t.size + F.wt + sWt hd.ns), by unfold leftOf; rw [if_pos hneed], by omega⟩
  rw [hd']
  clear hd'
  have hd0 : ¬ (d : Int) < 0 := by omega
  have hs : F.wt ≤ 1048576 := by omega
  have hsn : hd.ns.length ≤ 1048576 := by omega
  clear hneed
  go_wp2_with fail
  refine (toValue_any hd a c F _ hs hsn (HI.out _ hB1).1 hl hc (HI.out _ hB1).2).mono ?_
  rintro r w2 ⟨⟨nb1, m1, F1, rfl, ha1, hF1, hi1, _⟩, hb2⟩
  have hB2 := hB1.trans (hb2.mono hB1.size)
  have hs1 : F1.size ≤ 1048576 := by rw [Vo.alike_size ha1]; exact Nat.le_trans F.size_wt hs
  have hl1 : F1.len ≤ maxLen := by rw [Vo.alike_len ha1]; exact Nat.le_trans hl hc
  clear x0 x1 x2 x3 x4 x5
  obtain ⟨x0, x1, x2, x3, x4, x5⟩ := HX.out _ hB2
  clear hb2 hB1
  go_wp2_with fail
  refine (sIniPut_any (hd.to m1) (some ⟨nb1, 0, none⟩) F1.len F1 _ hs1 (.inr ⟨nb1, 0, rfl, hF1⟩) (Nat.le_refl _) hl1 hi1).mono ?_
  rintro r w3 ⟨rfl, hb3⟩
  have hB3 := hB2.trans (hb3.mono hB2.size)
  rw [iput_copy ha1]
  clear x0 x1 x2 x3 x4 x5
  obtain ⟨x0, x1, x2, x3, x4, x5⟩ := HX.out _ hB3
  clear hb3 hB2 hF1 hi1
  go_wp2_with fail
  refine (toValue_any hd a c F _ hs hsn (HI.out _ hB3).1 hl hc (HI.out _ hB3).2).mono ?_
  rintro r w4 ⟨⟨nb, n2, F2, rfl, ha, hF2, hi2, hg⟩, hb4⟩
  have hB4a := hB3.trans (hb4.mono hB3.size)
  have hbx := (Below.refl w4.heap.size w4).alloc (Nat.le_refl _) (.cells #[.int .i64 (hd.to n2).k, .int .i64 (hd.to n2).m, .int .i64 (hd.to n2).e, .string (hd.to n2).t, .slice (some ⟨nb, 0, none⟩) F2.len F2.len, .slice (hd.to n2).na (hd.to n2).ns.length (hd.to n2).nc] 33)
  have hB4 := hB4a.trans (hbx.mono hB4a.size)
  have hX4 := BxV.new w4 (hd.to n2) (.slice (some ⟨nb, 0, none⟩) F2.len F2.len) 33
  have hF4 := Vo.from_grow hbx F2 _ _ hF2
  have HI4 : Hid (Hd.In _ _ ∧ ItV.Good _ _) := ⟨hi2.grow hbx, hg.below hbx⟩
  have hs2 : F2.size ≤ 1048576 := by rw [Vo.alike_size ha]; exact Nat.le_trans F.size_wt hs
  have hl2 : F2.len ≤ maxLen := by rw [Vo.alike_len ha]; exact Nat.le_trans hl hc
  clear x0 x1 x2 x3 x4 x5
  clear hF2 hi2 hg hb4 hB4a hB3 hbx
  go_wp2_with fail
  refine (iIniPut_any (hd.to n2) (some ⟨nb, 0, none⟩) F2.len F2 _ hs2 (.inr ⟨nb, 0, rfl, hF4⟩) (Nat.le_refl _) hl2 HI4.out.1).mono ?_
  rintro r w5 ⟨rfl, hb5⟩
  have hB5 := hB4.trans (hb5.mono hB4.size)
  have hX5 := hX4.below hb5
  have hF5 := Vo.from_grow hb5 F2 _ _ hF4
  have HI5 : Hid (Hd.In w5 (hd.to n2)) := HI4.out.1.grow hb5
  rw [iput_copy ha]
  clear hX4 hF4 hB4 hb5 HI4
  have hqq : ((iput hd F).1.toList != (iput hd F).1.toList) = false := by simp
  have hqq2 : ((iput hd F).1.toList == (iput hd F).1.toList) = true := by simp
  have hqq3 : ((iput hd F).2 != (iput hd F).2) = false := by simp
  have hqq4 : ((iput hd F).2 == (iput hd F).2) = true := by simp
  go_wp2_with fail
  refine ipl10 (HX.out _ hB5) hX5 (HI.out _ hB5).1 hF5 HI5.out ha hl hc (HI.out _ hB5).2 hs hsn (fun _ d _ _ _ h => by cases d <;> exact h) ?_
  intro w6 v35 v36 v37 v38 hb6
  have hB6 := hB5.trans (hb6.mono hB5.size)
  clear hX5 hF5 hb6 hB5
  go_wp2_with fail
  go_ret
  exact ⟨rfl, HB.out _ hB6⟩
end Go.Proofs.Ytpgpkdeiapeoiaa
