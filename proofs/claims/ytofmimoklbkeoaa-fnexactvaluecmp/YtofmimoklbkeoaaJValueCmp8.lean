/- My own texts, joined: Cc DecN Cd Ce Cf. -/
import Derived.Test.YtofmimoklbkeoaaJValueCmp7
import Derived.Test.YtofmimoklbkeoaaJValueCmp5
import Derived.Test.YtofmimoklbkeoaaJValueCmp6
import Derived.Test.YtofmimoklbkeoaaJValueCmp4
/- How two values stand to each other, by the program: placeOrder, valueOrder, ValueCmp. -/
namespace Go.Proofs.Ytofmimoklbkeoaa
open Go.RowKit
/-- a value of which all is right, but for how great it is -/
def Fit (h : Hd) (F : Vo) : Prop := one h F.len ∧ F.allOne
theorem fit_at {h : Hd} {F : Vo} {i : Nat} (x : Fit h F) (hi : i < F.len) : Fit (F.hdAt i) (F.kidsAt i) := allOne_at hi x.2
/-- a function tells how two values stand to each other -/
def OrdC (f N : Nat) : Prop := ∀ (h : Hd) (a : Option Addr) (c : Nat) (F : Vo) (g : Hd) (a2 : Option Addr) (c2 : Nat) (G : Vo) (w : World), F.size < N → F.In w a → F.len ≤ c → c ≤ maxLen → h.In w → G.In w a2 → G.len ≤ c2 → c2 ≤ maxLen → g.In w → Fit h F → Fit g G →
  Calls Try.prog f #[valV h a F.len c, valV g a2 G.len c2] w fun r w' => r = .returned (.int .i64 (vord N h F g G)) ∧ Below w.heap.size w w'
def PlcC (f N : Nat) : Prop := ∀ (h : Hd) (a : Option Addr) (c : Nat) (F : Vo) (g : Hd) (a2 : Option Addr) (c2 : Nat) (G : Vo) (j : Nat) (w : World), F.size ≤ N → F.In w a → F.len ≤ c → c ≤ maxLen → h.In w → G.In w a2 → G.len ≤ c2 → c2 ≤ maxLen → g.In w → Fit h F → Fit g G → h.k = g.k → j < F.len → j < G.len →
  Calls Try.prog f #[valV h a F.len c, valV g a2 G.len c2, .int .i64 j] w fun r w' => r = .returned (.int .i64 (pord (vord N) (h.k == 6) h.ns g.ns F G j)) ∧ Below w.heap.size w w'
theorem hord_kind {h g : Hd} (x : hord h g = 0) : h.k = g.k := by
  by_cases hk : h.k = g.k
  · exact hk
  · unfold hord at x
    rw [if_neg hk] at x
    have := (Dm.sgn_iff (h.k - g.k)).2.2.1 x
    omega
theorem ford_next {f : Hd → Vo → Hd → Vo → Int} {ob : Bool} {ns ms : List ByteArray} {F G : Vo} {M j : Nat} (hj : j < M) (hp : pord f ob ns ms F G j = 0) : ford f ob ns ms F G (M - (j + 1)) (j + 1) = ford f ob ns ms F G (M - j) j := by
  rw [show M - j = (M - (j + 1)) + 1 by omega]
  show _ = if _ then _ else _
  rw [if_pos hp]
theorem ford_here {f : Hd → Vo → Hd → Vo → Int} {ob : Bool} {ns ms : List ByteArray} {F G : Vo} {M j : Nat} (hj : j < M) (hp : ¬ pord f ob ns ms F G j = 0) : pord f ob ns ms F G j = ford f ob ns ms F G (M - j) j := by
  rw [show M - j = (M - (j + 1)) + 1 by omega]
  show _ = if _ then _ else _
  rw [if_neg hp]
/-- the names at a place of two objects, as they lie there -/
theorem names_at {h : Hd} {F : Vo} {w W : World} (hh : h.In w) (hb : Below w.heap.size w W) (x : one h F.len) (hk : h.k = 6) {j : Nat} (hj : j < F.len) :
    ∃ nb no, h.na = some ⟨nb, no, none⟩ ∧ (j : Int) < (h.ns.length : Int) ∧ W.cell? ⟨nb, no + j, none⟩ = some (.string (nmAt h.ns j)) := by
  have hl := one_names x hk
  have hs := nmAt_some (ns := h.ns) (i := j) (by omega)
  rcases hh.1 with e | ⟨nb, no, e, hS⟩
  · rw [e] at hl; simp at hl; omega
  · exact ⟨nb, no, e, by omega, ((hS.grow hb).at hs).1⟩
set_option maxRecDepth 100000 in
set_option maxHeartbeats 1000000 in
theorem placeOrder_step (N : Nat) (H : OrdC 32 N) : PlcC 57 N := by
  intro h a c F g a2 c2 G j w hF hin hl hc hh hin2 hl2 hc2 hg hf hf2 hk0 hj hj2
  have hk : Hid (h.k = g.k) := hk0
  clear hk0
  obtain ⟨b, o, rfl, hFr⟩ := Vo.from_of_len hin hj
  obtain ⟨b2, o2, rfl, hGr⟩ := Vo.from_of_len hin2 hj2
  have hjl : (j : Int) < (F.len : Int) := by omega
  have hjl2 : (j : Int) < (G.len : Int) := by omega
  go_enter Try.func57, Try.ntmps57
  go_wp2_with fail
  obtain ⟨wp, hwp⟩ : ∃ wp, wp = (w.alloc (.cells #[.int .i64 h.k, .int .i64 h.m, .int .i64 h.e, .string h.t, .slice (some ⟨b, o, none⟩) F.len c, .slice h.na h.ns.length h.nc] 33)).alloc (.cells #[.int .i64 g.k, .int .i64 g.m, .int .i64 g.e, .string g.t, .slice (some ⟨b2, o2, none⟩) G.len c2, .slice g.na g.ns.length g.nc] 33) := ⟨_, rfl⟩
  have hBp : Below w.heap.size w wp := by subst hwp; exact ((Below.refl _ w).alloc (Nat.le_refl _) _).alloc (by simp) _
  have hA : BxV w.heap.size h (.slice (some ⟨b, o, none⟩) F.len c) wp := by subst hwp; exact (BxV.new w h _ _).below ((Below.refl _ _).alloc (Nat.le_refl _) _)
  have hB : BxV (w.heap.size + 1) g (.slice (some ⟨b2, o2, none⟩) G.len c2) wp := by
    subst hwp
    have h9 := BxV.new (w.alloc (.cells #[.int .i64 h.k, .int .i64 h.m, .int .i64 h.e, .string h.t, .slice (some ⟨b, o, none⟩) F.len c, .slice h.na h.ns.length h.nc] 33)) g (.slice (some ⟨b2, o2, none⟩) G.len c2) 33
    rw [World.size_alloc] at h9
    exact h9
  rw [← hwp]
  clear hwp
  have HC : Hid (∀ W', Below wp.heap.size wp W' → Cells6 W' b (o + j * 6) (F.hdAt j) (.slice (F.addrAt j) (F.kidsAt j).len (F.capAt j)) ∧ Cells6 W' b2 (o2 + j * 6) (G.hdAt j) (.slice (G.addrAt j) (G.kidsAt j).len (G.capAt j))) := fun W' hW =>
    ⟨(Vo.from_at (Vo.from_grow (hBp.trans (hW.mono hBp.size)) F b o hFr) hj).1, (Vo.from_at (Vo.from_grow (hBp.trans (hW.mono hBp.size)) G b2 o2 hGr) hj2).1⟩
  have HK : Hid (∀ W', Below wp.heap.size wp W' → Calls Try.prog 32 #[valV (F.hdAt j) (F.addrAt j) (F.kidsAt j).len (F.capAt j), valV (G.hdAt j) (G.addrAt j) (G.kidsAt j).len (G.capAt j)] W' fun r w' => r = .returned (.int .i64 (vord N (F.hdAt j) (F.kidsAt j) (G.hdAt j) (G.kidsAt j))) ∧ Below W'.heap.size W' w') := fun W' hW => by
    obtain ⟨_, x2, ⟨x3, x4⟩, x5⟩ := Vo.from_at (Vo.from_grow (hBp.trans (hW.mono hBp.size)) F b o hFr) hj
    obtain ⟨_, y2, ⟨y3, y4⟩, y5⟩ := Vo.from_at (Vo.from_grow (hBp.trans (hW.mono hBp.size)) G b2 o2 hGr) hj2
    have hs := Vo.size_at hj
    exact H _ _ _ _ _ _ _ _ W' (by omega) x2 x3 x4 x5 y2 y3 y4 y5 (fit_at hf hj) (fit_at hf2 hj2)
  by_cases hob : h.k = 6
  · obtain ⟨nb, no, e1, e2, e3⟩ := names_at hh hBp hf.1 hob hj
    obtain ⟨mb, mo, e4, e5, e6⟩ := names_at hg hBp hf2.1 (hk.out.symm.trans hob) hj2
    have hob' : (h.k == 6) = true := by rw [hob]; rfl
    by_cases hne : nmAt h.ns j = nmAt g.ns j
    · have HR : Hid (pord (vord N) (h.k == 6) h.ns g.ns F G j = vord N (F.hdAt j) (F.kidsAt j) (G.hdAt j) (G.kidsAt j)) := if_neg (fun x => x.2 hne)
      have hq : ((nmAt h.ns j).toList != (nmAt g.ns j).toList) = false := by rw [hne]; simp
      clear hin hin2 hFr hGr hh hg H hf hf2 hk hob' hne
      refine po1 hA hB hob e1 e4 e2 e5 e3 e6 hq (fun _ d _ _ _ h => by cases d <;> exact h) ?_
      intro w1 v7 v8 v9 v10 v11 v12 v13 v14 v15 v16 v17 v18 v19 v20 v21 hb1
      have hA1 := hA.below hb1
      have hB1 := hB.below hb1
      clear hA hB e3 e6 hob e1 e4 e2 e5 hq
      go_wp2_with fail
      refine po3 hA1 hB1 hjl hjl2 (HC.out _ hb1).1 (HC.out _ hb1).2 (fun W' hW => HK.out W' (hb1.trans (hW.mono hb1.size))) (fun _ d _ _ _ h => by cases d <;> exact h) ?_
      intro w2 v34 v35 v36 v37 v38 v39 v40 v41 v42 v43 v44 hb2
      have hB2 := hBp.trans ((hb1.trans (hb2.mono hb1.size)).mono hBp.size)
      clear hA1 hB1 HC HK hb1 hb2
      go_wp2_with fail
      go_ret
      exact ⟨by rw [HR.out]; rfl, hB2⟩
    · have HR : Hid (pord (vord N) (h.k == 6) h.ns g.ns F G j = tord (nmAt h.ns j) (nmAt g.ns j)) := if_pos ⟨hob', hne⟩
      have hq : ((nmAt h.ns j).toList != (nmAt g.ns j).toList) = true := by
        simp only [bne_iff_ne, ne_eq]
        exact fun x => hne (text_ext x)
      clear hin hin2 hFr hGr hh hg H hf hf2 hk hob' hne HC HK
      refine po1 hA hB hob e1 e4 e2 e5 e3 e6 hq (fun _ d _ _ _ h => by cases d <;> exact h) ?_
      intro w1 v7 v8 v9 v10 v11 v12 v13 v14 v15 v16 v17 v18 v19 v20 v21 hb1
      have hA1 := hA.below hb1
      have hB1 := hB.below hb1
      have f3 := (hb1.cell (p := ⟨nb, no + j, none⟩) (World.block_lt_of_cell? _ _ e3)).trans e3
      have f6 := (hb1.cell (p := ⟨mb, mo + j, none⟩) (World.block_lt_of_cell? _ _ e6)).trans e6
      have HE : Hid ((h.na = some ⟨nb, no, none⟩ ∧ g.na = some ⟨mb, mo, none⟩) ∧ w1.cell? ⟨nb, no + j, none⟩ = some (.string (nmAt h.ns j)) ∧ w1.cell? ⟨mb, mo + j, none⟩ = some (.string (nmAt g.ns j))) := ⟨⟨e1, e4⟩, f3, f6⟩
      clear hA hB e3 e6 hob hq f3 f6 e1 e4
      go_wp2_with fail
      refine po2 hA1 hB1 HE.out.1.1 HE.out.1.2 e2 e5 HE.out.2.1 HE.out.2.2 (fun _ d _ _ _ h => by cases d <;> exact h) ?_
      intro w2 v23 v24 v25 v26 v27 v28 v29 v30 v31 v32 v33 hb2
      have hB2 := hBp.trans ((hb1.trans (hb2.mono hb1.size)).mono hBp.size)
      clear hA1 hB1 hb1 hb2
      go_wp2_with fail
      go_ret
      exact ⟨by rw [HR.out]; rfl, hB2⟩
  · have hob' : (h.k == 6) = false := by simpa using hob
    have HR : Hid (pord (vord N) (h.k == 6) h.ns g.ns F G j = vord N (F.hdAt j) (F.kidsAt j) (G.hdAt j) (G.kidsAt j)) := if_neg (fun x => by rw [hob'] at x; cases x.1)
    clear hin hin2 hFr hGr hh hg H hf hf2 hk hob
    refine po1n (B := w.heap.size + 1) hA hob' (fun _ d _ _ _ h => by cases d <;> exact h) ?_
    intro w1 v7 v8 v9 v10 v11 v12 v13 v14 v15 v16 v17 v18 v19 v20 v21 hb1
    have hA1 := hA.below hb1
    have hB1 := hB.below hb1
    clear hA hB hob'
    go_wp2_with fail
    refine po3 hA1 hB1 hjl hjl2 (HC.out _ hb1).1 (HC.out _ hb1).2 (fun W' hW => HK.out W' (hb1.trans (hW.mono hb1.size))) (fun _ d _ _ _ h => by cases d <;> exact h) ?_
    intro w2 v34 v35 v36 v37 v38 v39 v40 v41 v42 v43 v44 hb2
    have hB2 := hBp.trans ((hb1.trans (hb2.mono hb1.size)).mono hBp.size)
    clear hA1 hB1 HC HK hb1 hb2
    go_wp2_with fail
    go_ret
    exact ⟨by rw [HR.out]; rfl, hB2⟩
set_option maxRecDepth 100000 in
set_option maxHeartbeats 1000000 in
theorem valueOrder_step (N : Nat) (H : PlcC 57 N) : OrdC 32 (N + 1) := by
  intro h a c F g a2 c2 G w hF hin hl hc hh hin2 hl2 hc2 hg hf hf2
  have hlc := hl
  have hlc2 := hl2
  unfold maxLen at hc hc2
  go_enter Try.func32, Try.ntmps32
  go_wp2_with fail
  obtain ⟨wp, hwp⟩ : ∃ wp, wp = (w.alloc (.cells #[.int .i64 h.k, .int .i64 h.m, .int .i64 h.e, .string h.t, .slice a F.len c, .slice h.na h.ns.length h.nc] 33)).alloc (.cells #[.int .i64 g.k, .int .i64 g.m, .int .i64 g.e, .string g.t, .slice a2 G.len c2, .slice g.na g.ns.length g.nc] 33) := ⟨_, rfl⟩
  have hBp : Below w.heap.size w wp := by subst hwp; exact ((Below.refl _ w).alloc (Nat.le_refl _) _).alloc (by simp) _
  have hA : BxV w.heap.size h (.slice a F.len c) wp := by subst hwp; exact (BxV.new w h _ _).below ((Below.refl _ _).alloc (Nat.le_refl _) _)
  have hB : BxV (w.heap.size + 1) g (.slice a2 G.len c2) wp := by
    subst hwp
    have h9 := BxV.new (w.alloc (.cells #[.int .i64 h.k, .int .i64 h.m, .int .i64 h.e, .string h.t, .slice a F.len c, .slice h.na h.ns.length h.nc] 33)) g (.slice a2 G.len c2) 33
    rw [World.size_alloc] at h9
    exact h9
  rw [← hwp]
  clear hwp
  refine vo1 hA hB (one_dec hf.1) (one_dec hf2.1) (fun _ d _ _ _ h => by cases d <;> exact h) ?_
  intro w1 v8 v9 v10 v11 v12 v13 v14 v15 v16 v17 v18 v19 v20 v21 v22 v23 v24 hb1
  have hX1 : Hid (∀ W, Below w1.heap.size w1 W → BxV w.heap.size h (.slice a F.len c) W ∧ BxV (w.heap.size + 1) g (.slice a2 G.len c2) W) := fun W hW => ⟨hA.below (hb1.trans (hW.mono hb1.size)), hB.below (hb1.trans (hW.mono hb1.size))⟩
  have hB1 := hBp.trans (hb1.mono hBp.size)
  clear hA hB hBp hb1
  by_cases hz : hord h g = 0
  case neg =>
    have HR : Hid (vord (N + 1) h F g G = hord h g) := if_neg hz
    have e : (hord h g != 0) = true := by simpa using hz
    clear hin hin2 hh hg H hf hf2 hX1
    go_wp2_with fail
    go_ret
    exact ⟨by rw [HR.out]; rfl, hB1⟩
  have hk := hord_kind hz
  by_cases hcase : G.len < F.len
  · have hcase' : (G.len : Int) < (F.len : Int) := by omega
    have HR : Hid (vord (N + 1) h F g G = ford (vord N) (h.k == 6) h.ns g.ns F G G.len 0) := by unfold Hid; rw [← (by omega : min F.len G.len = G.len)]; exact if_pos hz
    have hMF : G.len ≤ F.len := by omega
    have hMG : G.len ≤ G.len := by omega
    have HH : Hid (∀ (j : Nat) (W : World), Below w1.heap.size w1 W → j < G.len → Calls Try.prog 57 #[valV h a F.len c, valV g a2 G.len c2, .int .i64 j] W fun r w' => r = .returned (.int .i64 (pord (vord N) (h.k == 6) h.ns g.ns F G j)) ∧ Below W.heap.size W w') := fun j W hW hj => by
      have hb := hB1.trans (hW.mono hB1.size)
      exact H h a c F g a2 c2 G j W (by omega) (hin.grow hb) hl (by unfold maxLen; omega) (hh.grow hb) (hin2.grow hb) hl2 (by unfold maxLen; omega) (hg.grow hb) hf hf2 hk (by omega) (by omega)
    rw [hz]
    clear hin hin2 hh hg H hf hf2 hk hz
    obtain ⟨⟨x0, x1, x2, x3, x4, x5⟩, y0, y1, y2, y3, y4, y5⟩ := hX1.out _ (Below.refl _ _)
    go_wp2_with fail
    clear x0 x1 x2 x3 x4 x5 y0 y1 y2 y3 y4 y5
    go_loopw [35] (fun i wr => ∃ j : Nat, i = .int .i64 j ∧ j ≤ G.len ∧ ford (vord N) (h.k == 6) h.ns g.ns F G (G.len - j) j = ford (vord N) (h.k == 6) h.ns g.ns F G G.len 0 ∧ Below w1.heap.size w1 wr) (fun i _ => G.len - (intOf i).toNat)
    case atStart => exact ⟨0, rfl, Nat.zero_le _, rfl, Below.refl _ _⟩
    case round =>
      obtain ⟨j, rfl, hj, hfo, hb⟩ := hrel
      have HF : Hid (ford (vord N) (h.k == 6) h.ns g.ns F G (G.len - j) j = ford (vord N) (h.k == 6) h.ns g.ns F G G.len 0) := hfo
      clear hfo
      obtain ⟨⟨x0, x1, x2, x3, x4, x5⟩, y0, y1, y2, y3, y4, y5⟩ := hX1.out _ hb
      by_cases hjM : j < G.len
      · have hjl : (j : Int) < (G.len : Int) := by omega
        have hcall := HH.out j wr hb hjM
        have HN := @ford_next (vord N) (h.k == 6) h.ns g.ns F G G.len j hjM
        have HN2 := @ford_here (vord N) (h.k == 6) h.ns g.ns F G G.len j hjM
        generalize pord (vord N) (h.k == 6) h.ns g.ns F G j = P at hcall HN HN2
        have HN' : Hid (P = 0 → ford (vord N) (h.k == 6) h.ns g.ns F G (G.len - (j + 1)) (j + 1) = ford (vord N) (h.k == 6) h.ns g.ns F G (G.len - j) j) := HN
        have HN2' : Hid (¬ P = 0 → P = ford (vord N) (h.k == 6) h.ns g.ns F G (G.len - j) j) := HN2
        have HCl := hideIt hcall
        clear HN HN2 hcall
        go_wp2_with fail
        refine HCl.out.mono ?_
        rintro r w2 ⟨rfl, hb2⟩
        have hB2 := hb.trans (hb2.mono hb.size)
        clear x0 x1 x2 x3 x4 x5 y0 y1 y2 y3 y4 y5 hb2 HCl
        by_cases hp : P = 0
        · have e : (P != 0) = false := by rw [hp]; rfl
          have HP : Hid (P = 0) := hp
          clear hp
          go_wp2_with fail
          go_round
          case rel => exact ⟨j + 1, by go_num, by omega, by rw [HN'.out HP.out]; exact HF.out, hB2⟩
          case measure => simp [intOf]; omega
        · have e : (P != 0) = true := by simpa using hp
          go_wp2_with fail
          go_ret
          exact ⟨by rw [HR.out, ← HF.out, ← HN2'.out hp]; rfl, hB1.trans (hB2.mono hB1.size)⟩
      · have ej : j = G.len := by omega
        have HL : Hid (Dm.sgn ((F.len : Int) - (G.len : Int)) = ford (vord N) (h.k == 6) h.ns g.ns F G (G.len - j) j) := by unfold Hid; rw [show G.len - j = 0 by omega]; rfl
        have hnl : ¬ (j : Int) < (G.len : Int) := by omega
        clear ej
        skip
        go_wp2_with fail
        refine (compare_any _ _ _).mono ?_
        rintro r w2 ⟨rfl, hw2⟩
        subst w2
        go_wp2_with fail
        go_ret
        exact ⟨by rw [HR.out, ← HF.out, ← HL.out]; rfl, hB1.trans (hb.mono hB1.size)⟩
  · have hcase' : ¬ (G.len : Int) < (F.len : Int) := by omega
    have HR : Hid (vord (N + 1) h F g G = ford (vord N) (h.k == 6) h.ns g.ns F G F.len 0) := by unfold Hid; rw [← (by omega : min F.len G.len = F.len)]; exact if_pos hz
    have hMF : F.len ≤ F.len := by omega
    have hMG : F.len ≤ G.len := by omega
    have HH : Hid (∀ (j : Nat) (W : World), Below w1.heap.size w1 W → j < F.len → Calls Try.prog 57 #[valV h a F.len c, valV g a2 G.len c2, .int .i64 j] W fun r w' => r = .returned (.int .i64 (pord (vord N) (h.k == 6) h.ns g.ns F G j)) ∧ Below W.heap.size W w') := fun j W hW hj => by
      have hb := hB1.trans (hW.mono hB1.size)
      exact H h a c F g a2 c2 G j W (by omega) (hin.grow hb) hl (by unfold maxLen; omega) (hh.grow hb) (hin2.grow hb) hl2 (by unfold maxLen; omega) (hg.grow hb) hf hf2 hk (by omega) (by omega)
    rw [hz]
    clear hin hin2 hh hg H hf hf2 hk hz
    obtain ⟨⟨x0, x1, x2, x3, x4, x5⟩, y0, y1, y2, y3, y4, y5⟩ := hX1.out _ (Below.refl _ _)
    go_wp2_with fail
    clear x0 x1 x2 x3 x4 x5 y0 y1 y2 y3 y4 y5
    go_loopw [35] (fun i wr => ∃ j : Nat, i = .int .i64 j ∧ j ≤ F.len ∧ ford (vord N) (h.k == 6) h.ns g.ns F G (F.len - j) j = ford (vord N) (h.k == 6) h.ns g.ns F G F.len 0 ∧ Below w1.heap.size w1 wr) (fun i _ => F.len - (intOf i).toNat)
    case atStart => exact ⟨0, rfl, Nat.zero_le _, rfl, Below.refl _ _⟩
    case round =>
      obtain ⟨j, rfl, hj, hfo, hb⟩ := hrel
      have HF : Hid (ford (vord N) (h.k == 6) h.ns g.ns F G (F.len - j) j = ford (vord N) (h.k == 6) h.ns g.ns F G F.len 0) := hfo
      clear hfo
      obtain ⟨⟨x0, x1, x2, x3, x4, x5⟩, y0, y1, y2, y3, y4, y5⟩ := hX1.out _ hb
      by_cases hjM : j < F.len
      · have hjl : (j : Int) < (F.len : Int) := by omega
        have hcall := HH.out j wr hb hjM
        have HN := @ford_next (vord N) (h.k == 6) h.ns g.ns F G F.len j hjM
        have HN2 := @ford_here (vord N) (h.k == 6) h.ns g.ns F G F.len j hjM
        generalize pord (vord N) (h.k == 6) h.ns g.ns F G j = P at hcall HN HN2
        have HN' : Hid (P = 0 → ford (vord N) (h.k == 6) h.ns g.ns F G (F.len - (j + 1)) (j + 1) = ford (vord N) (h.k == 6) h.ns g.ns F G (F.len - j) j) := HN
        have HN2' : Hid (¬ P = 0 → P = ford (vord N) (h.k == 6) h.ns g.ns F G (F.len - j) j) := HN2
        have HCl := hideIt hcall
        clear HN HN2 hcall
        go_wp2_with fail
        refine HCl.out.mono ?_
        rintro r w2 ⟨rfl, hb2⟩
        have hB2 := hb.trans (hb2.mono hb.size)
        clear x0 x1 x2 x3 x4 x5 y0 y1 y2 y3 y4 y5 hb2 HCl
        by_cases hp : P = 0
        · have e : (P != 0) = false := by rw [hp]; rfl
          have HP : Hid (P = 0) := hp
          clear hp
          go_wp2_with fail
          go_round
          case rel => exact ⟨j + 1, by go_num, by omega, by rw [HN'.out HP.out]; exact HF.out, hB2⟩
          case measure => simp [intOf]; omega
        · have e : (P != 0) = true := by simpa using hp
          go_wp2_with fail
          go_ret
          exact ⟨by rw [HR.out, ← HF.out, ← HN2'.out hp]; rfl, hB1.trans (hB2.mono hB1.size)⟩
      · have ej : j = F.len := by omega
        have HL : Hid (Dm.sgn ((F.len : Int) - (G.len : Int)) = ford (vord N) (h.k == 6) h.ns g.ns F G (F.len - j) j) := by unfold Hid; rw [show F.len - j = 0 by omega]; rfl
        have hnl : ¬ (j : Int) < (F.len : Int) := by omega
        clear ej
        skip
        go_wp2_with fail
        refine (compare_any _ _ _).mono ?_
        rintro r w2 ⟨rfl, hw2⟩
        subst w2
        go_wp2_with fail
        go_ret
        exact ⟨by rw [HR.out, ← HF.out, ← HL.out]; rfl, hB1.trans (hb.mono hB1.size)⟩
theorem valueOrder_all (N : Nat) : OrdC 32 N := by
  induction N with
  | zero => intro h a c F g a2 c2 G w hF; omega
  | succ N ih => exact valueOrder_step N (placeOrder_step N ih)
open Classical in
/-- what ValueCmp answers -/
noncomputable def vcmp (h : Hd) (F : Vo) (g : Hd) (G : Vo) : Int := if ValOk h F ∧ ValOk g G then vord 200 h F g G else 0
theorem vcmp_copy {h g : Hd} {m n : Nat} {F F1 G G1 : Vo} (x : F1.alike F) (y : G1.alike G) : vcmp (h.to m) F1 (g.to n) G1 = vcmp h F g G := by
  unfold vcmp
  rw [propext (ok_copy x), propext (ok_copy y), vord_alike 200 (h := h.to m) (h' := h) (g := g.to n) (g' := g) ⟨⟨rfl, rfl, rfl, rfl⟩, rfl⟩ x ⟨⟨rfl, rfl, rfl, rfl⟩, rfl⟩ y]
theorem vcmp_ok {h g : Hd} {F G : Vo} (x : ValOk h F) (y : ValOk g G) : vcmp h F g G = vord 200 h F g G := if_pos ⟨x, y⟩
theorem vcmp_no {h g : Hd} {F G : Vo} (x : ¬ ValOk h F ∨ ¬ ValOk g G) : vcmp h F g G = 0 := if_neg (fun z => x.elim (fun p => p z.1) (fun p => p z.2))
end Go.Proofs.Ytofmimoklbkeoaa
/- Contract: DecCmp of the spec. -/
namespace Go.Proofs.Ytofmimoklbkeoaa
open Go.RowKit
end Go.Proofs.Ytofmimoklbkeoaa
/- How two values stand to each other, by the specification: texts, and the regions that draw. -/
namespace Go.Proofs.Ytofmimoklbkeoaa
open Go.RowKit
set_option maxHeartbeats 1000000 in
theorem l8Texts_any (a b : ByteArray) (w : World) :
    Calls Try.prog 50 #[.string a, .string b] w fun e w' => e = .returned (.int .i64 (tord a b)) ∧ w' = w := by
  rcases tord_cases a b with ⟨h1, h2, h3, h4⟩ | ⟨h1, h2, h3, h4⟩ | ⟨h1, h2, h3, h4⟩
  · have e : (a.toList == b.toList) = false := by simpa using fun x => h4 (text_ext x)
    rw [h1]
    clear h1 h4
    go_enter Try.func50, Try.ntmps50
    go_wp2_with fail
    go_ret
    exact ⟨rfl, rfl⟩
  · have e : (a.toList == b.toList) = false := by simpa using fun x => h4 (text_ext x)
    rw [h1]
    clear h1 h4
    go_enter Try.func50, Try.ntmps50
    go_wp2_with fail
    go_ret
    exact ⟨rfl, rfl⟩
  · subst h4
    have e : (a.toList == a.toList) = true := by simp
    rw [h1]
    clear h1
    go_enter Try.func50, Try.ntmps50
    go_wp2_with fail
    go_ret
    exact ⟨rfl, rfl⟩
set_option maxRecDepth 100000 in
set_option maxHeartbeats 1000000 in
theorem lc10n {Q : Exit → Act → World → Prop} {t0 t1 t4 t6 t7 t8 t9 t10 t11 t12 t13 t14 t15 t16 t17 t18 t19 t20 t21 t22 t23 t24 t25 t26 t27 t28 t29 t30 t31 t32 t33 t34 t35 t36 t37 t38 t39 t40 t41 t42 t43 t44 t45 t46 t47 t48 t49 t50 t51 t52 t53 t54 t55 t56 t57 t58 t59 t60 t61 t62 t63 t64 t65 t66 t67 t68 t69 t70 t71 t72 t73 t74 t75 t76 t77 t78 t79 t80 t81 t82 t83 t84 t85 t86 t87 t88 t89 t90 t91 t92 t93 t94 t95 t96 t97 t98 t99 t100 : Value} {W : World} {A B n c j : Nat} {h : Hd} {a : Option Addr}
    (hA : BxV A h (.slice a n c) W) (hk : (h.k == 6) = false)
    (hp : ∀ p d v a w, Q (.panic p) (Act.put a d v) w → Q (.panic p) a w) (h_ : ∀ ws v52 v53 v54 v55 v56 v57 v58 v59 v60 v61 v62 v63 v64 v65 v66, Below W.heap.size W ws → Q .normal { tmps := (t0 :: t1 :: (.pointer (some ⟨A, 0, none⟩)) :: (.pointer (some ⟨B, 0, none⟩)) :: t4 :: (.int .i64 (j : Nat)) :: t6 :: t7 :: t8 :: t9 :: t10 :: t11 :: t12 :: t13 :: t14 :: t15 :: t16 :: t17 :: t18 :: t19 :: t20 :: t21 :: t22 :: t23 :: t24 :: t25 :: t26 :: t27 :: t28 :: t29 :: t30 :: t31 :: t32 :: t33 :: t34 :: t35 :: t36 :: t37 :: t38 :: t39 :: t40 :: t41 :: t42 :: t43 :: t44 :: t45 :: t46 :: t47 :: t48 :: t49 :: t50 :: t51 :: v52 :: v53 :: v54 :: v55 :: v56 :: v57 :: v58 :: v59 :: v60 :: v61 :: v62 :: v63 :: v64 :: v65 :: v66 :: .bool false :: t68 :: t69 :: t70 :: t71 :: t72 :: t73 :: t74 :: t75 :: t76 :: t77 :: t78 :: t79 :: t80 :: t81 :: t82 :: t83 :: t84 :: t85 :: t86 :: t87 :: t88 :: t89 :: t90 :: t91 :: t92 :: t93 :: t94 :: t95 :: t96 :: t97 :: t98 :: t99 :: t100 :: []).toArray, defers := [] } ws) :
    Code.wp Try.prog (Code.region 10 #[{ dst := some 52, op := Op.fieldAddr 33 (Operand.tmp 2) 0, type := 0, pos := "l13_patch.go:176", after := #[], guard := none }, { dst := some 53, op := Op.load 3 (Operand.tmp 52), type := 3, pos := "l13_patch.go:176", after := #[{ on := 0, ground := Ground.data }], guard := none }, { dst := some 54, op := Op.binOp BinOp.eql 3 (Operand.tmp 53) (Operand.const (Value.int IntKind.i64 6)) 3, type := 4, pos := "l13_patch.go:176", after := #[{ on := 1, ground := Ground.data }], guard := none }, { dst := some 55, op := Op.move (Operand.tmp 54), type := 4, pos := "l13_patch.go:176", after := #[{ on := 2, ground := Ground.data }], guard := none }, { dst := some 56, op := Op.fieldAddr 33 (Operand.tmp 2) 4, type := 0, pos := "l13_patch.go:176", after := #[{ on := 3, ground := Ground.guard }], guard := some (3, true) }, { dst := some 57, op := Op.load 25 (Operand.tmp 56), type := 25, pos := "l13_patch.go:176", after := #[{ on := 4, ground := Ground.data }, { on := 3, ground := Ground.guard }], guard := some (3, true) }, { dst := some 58, op := Op.move (Operand.tmp 5), type := 3, pos := "l13_patch.go:176", after := #[{ on := 3, ground := Ground.guard }], guard := some (3, true) }, { dst := some 59, op := Op.indexAddr 25 (Operand.tmp 57) (Operand.tmp 58), type := 0, pos := "l13_patch.go:176", after := #[{ on := 5, ground := Ground.data }, { on := 6, ground := Ground.data }, { on := 3, ground := Ground.guard }], guard := some (3, true) }, { dst := some 60, op := Op.load 9 (Operand.tmp 59), type := 9, pos := "l13_patch.go:176", after := #[{ on := 7, ground := Ground.data }, { on := 3, ground := Ground.guard }], guard := some (3, true) }, { dst := some 61, op := Op.fieldAddr 33 (Operand.tmp 3) 4, type := 0, pos := "l13_patch.go:176", after := #[{ on := 3, ground := Ground.guard }], guard := some (3, true) }, { dst := some 62, op := Op.load 25 (Operand.tmp 61), type := 25, pos := "l13_patch.go:176", after := #[{ on := 9, ground := Ground.data }, { on := 3, ground := Ground.guard }], guard := some (3, true) }, { dst := some 63, op := Op.move (Operand.tmp 5), type := 3, pos := "l13_patch.go:176", after := #[{ on := 3, ground := Ground.guard }], guard := some (3, true) }, { dst := some 64, op := Op.indexAddr 25 (Operand.tmp 62) (Operand.tmp 63), type := 0, pos := "l13_patch.go:176", after := #[{ on := 10, ground := Ground.data }, { on := 11, ground := Ground.data }, { on := 3, ground := Ground.guard }], guard := some (3, true) }, { dst := some 65, op := Op.load 9 (Operand.tmp 64), type := 9, pos := "l13_patch.go:176", after := #[{ on := 12, ground := Ground.data }, { on := 3, ground := Ground.guard }], guard := some (3, true) }, { dst := some 66, op := Op.binOp BinOp.neq 9 (Operand.tmp 60) (Operand.tmp 65) 9, type := 4, pos := "l13_patch.go:176", after := #[{ on := 8, ground := Ground.data }, { on := 13, ground := Ground.data }, { on := 3, ground := Ground.guard }], guard := some (3, true) }, { dst := some 67, op := Op.pick (Operand.tmp 55) (Operand.tmp 66) (Operand.const (Value.bool false)), type := 4, pos := "l13_patch.go:176", after := #[{ on := 3, ground := Ground.data }, { on := 14, ground := Ground.data }], guard := none }] true) Q { tmps := (t0 :: t1 :: (.pointer (some ⟨A, 0, none⟩)) :: (.pointer (some ⟨B, 0, none⟩)) :: t4 :: (.int .i64 (j : Nat)) :: t6 :: t7 :: t8 :: t9 :: t10 :: t11 :: t12 :: t13 :: t14 :: t15 :: t16 :: t17 :: t18 :: t19 :: t20 :: t21 :: t22 :: t23 :: t24 :: t25 :: t26 :: t27 :: t28 :: t29 :: t30 :: t31 :: t32 :: t33 :: t34 :: t35 :: t36 :: t37 :: t38 :: t39 :: t40 :: t41 :: t42 :: t43 :: t44 :: t45 :: t46 :: t47 :: t48 :: t49 :: t50 :: t51 :: t52 :: t53 :: t54 :: t55 :: t56 :: t57 :: t58 :: t59 :: t60 :: t61 :: t62 :: t63 :: t64 :: t65 :: t66 :: t67 :: t68 :: t69 :: t70 :: t71 :: t72 :: t73 :: t74 :: t75 :: t76 :: t77 :: t78 :: t79 :: t80 :: t81 :: t82 :: t83 :: t84 :: t85 :: t86 :: t87 :: t88 :: t89 :: t90 :: t91 :: t92 :: t93 :: t94 :: t95 :: t96 :: t97 :: t98 :: t99 :: t100 :: []).toArray, defers := [] } W := by
  have HSof : Hid (∀ w', Below W.heap.size W w' → w'.cell? ⟨A, 0, none⟩ = some (.int .i64 h.k)) := fun w' h => (hA.below h).1
  have hB0 := (Below.refl W.heap.size W).drew
  have hS0 := HSof.out _ hB0
  clear hA
  refine wp_region_held_drew (S := fun w' => w'.cell? ⟨A, 0, none⟩ = some (.int .i64 h.k)) (by kernel_rfl) hS0 (fun hHeld => ?_)
  refine wpAnyH_take (i := 0) (v := .pointer (some ⟨A, 0, none⟩)) rfl (by kernel_rfl) (by kernel_rfl) (by kernel_rfl) (fun _ _ _ h => hp _ _ _ _ _ h) (Or.inl ⟨by rfl, ?_⟩) (by assumption) ?_
  · intro w hSw
    (try dsimp only at hSw)
    go_simp
  (try simp only [Act.put, List.getElem_toArray, List.getElem_cons_zero, List.setIfInBounds_toArray, List.set_cons_zero, List.set_cons_succ])
  refine wpAnyH_take (i := 1) (v := .int .i64 h.k) rfl (by kernel_rfl) (by kernel_rfl) (by kernel_rfl) (fun _ _ _ h => hp _ _ _ _ _ h) (Or.inl ⟨by rfl, ?_⟩) (by assumption) ?_
  · intro w hSw
    (try dsimp only at hSw)
    go_simp
  (try simp only [Act.put, List.getElem_toArray, List.getElem_cons_zero, List.getElem_cons_succ, List.setIfInBounds_toArray, List.set_cons_zero, List.set_cons_succ])
  refine wpAnyH_take (i := 2) (v := .bool false) rfl (by kernel_rfl) (by kernel_rfl) (by kernel_rfl) (fun _ _ _ h => hp _ _ _ _ _ h) (Or.inl ⟨by rfl, ?_⟩) (by assumption) ?_
  · intro w hSw
    (try dsimp only at hSw)
    go_simp
  (try simp only [Act.put, List.getElem_toArray, List.getElem_cons_zero, List.getElem_cons_succ, List.setIfInBounds_toArray, List.set_cons_zero, List.set_cons_succ])
  refine wpAnyH_take (i := 3) (v := .bool false) rfl (by kernel_rfl) (by kernel_rfl) (by kernel_rfl) (fun _ _ _ h => hp _ _ _ _ _ h) (Or.inl ⟨by rfl, ?_⟩) (by assumption) ?_
  · intro w hSw
    (try dsimp only at hSw)
    go_simp
  (try simp only [Act.put, List.getElem_toArray, List.getElem_cons_zero, List.getElem_cons_succ, List.setIfInBounds_toArray, List.set_cons_zero, List.set_cons_succ])
  refine wpAnyH_take (i := 4) (v := undef) rfl (by kernel_rfl) (by kernel_rfl) (by kernel_rfl) (fun _ _ _ h => hp _ _ _ _ _ h) (Or.inr ⟨by rfl, rfl⟩) (by assumption) ?_
  (try simp only [Act.put, List.getElem_toArray, List.getElem_cons_zero, List.getElem_cons_succ, List.setIfInBounds_toArray, List.set_cons_zero, List.set_cons_succ])
  refine wpAnyH_take (i := 5) (v := undef) rfl (by kernel_rfl) (by kernel_rfl) (by kernel_rfl) (fun _ _ _ h => hp _ _ _ _ _ h) (Or.inr ⟨by rfl, rfl⟩) (by assumption) ?_
  (try simp only [Act.put, List.getElem_toArray, List.getElem_cons_zero, List.getElem_cons_succ, List.setIfInBounds_toArray, List.set_cons_zero, List.set_cons_succ])
  refine wpAnyH_take (i := 6) (v := undef) rfl (by kernel_rfl) (by kernel_rfl) (by kernel_rfl) (fun _ _ _ h => hp _ _ _ _ _ h) (Or.inr ⟨by rfl, rfl⟩) (by assumption) ?_
  (try simp only [Act.put, List.getElem_toArray, List.getElem_cons_zero, List.getElem_cons_succ, List.setIfInBounds_toArray, List.set_cons_zero, List.set_cons_succ])
  refine wpAnyH_take (i := 7) (v := undef) rfl (by kernel_rfl) (by kernel_rfl) (by kernel_rfl) (fun _ _ _ h => hp _ _ _ _ _ h) (Or.inr ⟨by rfl, rfl⟩) (by assumption) ?_
  (try simp only [Act.put, List.getElem_toArray, List.getElem_cons_zero, List.getElem_cons_succ, List.setIfInBounds_toArray, List.set_cons_zero, List.set_cons_succ])
  refine wpAnyH_take (i := 8) (v := undef) rfl (by kernel_rfl) (by kernel_rfl) (by kernel_rfl) (fun _ _ _ h => hp _ _ _ _ _ h) (Or.inr ⟨by rfl, rfl⟩) (by assumption) ?_
  (try simp only [Act.put, List.getElem_toArray, List.getElem_cons_zero, List.getElem_cons_succ, List.setIfInBounds_toArray, List.set_cons_zero, List.set_cons_succ])
  refine wpAnyH_take (i := 9) (v := undef) rfl (by kernel_rfl) (by kernel_rfl) (by kernel_rfl) (fun _ _ _ h => hp _ _ _ _ _ h) (Or.inr ⟨by rfl, rfl⟩) (by assumption) ?_
  (try simp only [Act.put, List.getElem_toArray, List.getElem_cons_zero, List.getElem_cons_succ, List.setIfInBounds_toArray, List.set_cons_zero, List.set_cons_succ])
  refine wpAnyH_take (i := 10) (v := undef) rfl (by kernel_rfl) (by kernel_rfl) (by kernel_rfl) (fun _ _ _ h => hp _ _ _ _ _ h) (Or.inr ⟨by rfl, rfl⟩) (by assumption) ?_
  (try simp only [Act.put, List.getElem_toArray, List.getElem_cons_zero, List.getElem_cons_succ, List.setIfInBounds_toArray, List.set_cons_zero, List.set_cons_succ])
  refine wpAnyH_take (i := 11) (v := undef) rfl (by kernel_rfl) (by kernel_rfl) (by kernel_rfl) (fun _ _ _ h => hp _ _ _ _ _ h) (Or.inr ⟨by rfl, rfl⟩) (by assumption) ?_
  (try simp only [Act.put, List.getElem_toArray, List.getElem_cons_zero, List.getElem_cons_succ, List.setIfInBounds_toArray, List.set_cons_zero, List.set_cons_succ])
  refine wpAnyH_take (i := 12) (v := undef) rfl (by kernel_rfl) (by kernel_rfl) (by kernel_rfl) (fun _ _ _ h => hp _ _ _ _ _ h) (Or.inr ⟨by rfl, rfl⟩) (by assumption) ?_
  (try simp only [Act.put, List.getElem_toArray, List.getElem_cons_zero, List.getElem_cons_succ, List.setIfInBounds_toArray, List.set_cons_zero, List.set_cons_succ])
  refine wpAnyH_take (i := 13) (v := undef) rfl (by kernel_rfl) (by kernel_rfl) (by kernel_rfl) (fun _ _ _ h => hp _ _ _ _ _ h) (Or.inr ⟨by rfl, rfl⟩) (by assumption) ?_
  (try simp only [Act.put, List.getElem_toArray, List.getElem_cons_zero, List.getElem_cons_succ, List.setIfInBounds_toArray, List.set_cons_zero, List.set_cons_succ])
  refine wpAnyH_take (i := 14) (v := undef) rfl (by kernel_rfl) (by kernel_rfl) (by kernel_rfl) (fun _ _ _ h => hp _ _ _ _ _ h) (Or.inr ⟨by rfl, rfl⟩) (by assumption) ?_
  (try simp only [Act.put, List.getElem_toArray, List.getElem_cons_zero, List.getElem_cons_succ, List.setIfInBounds_toArray, List.set_cons_zero, List.set_cons_succ])
  refine wpAnyH_take (i := 15) (v := .bool false) rfl (by kernel_rfl) (by kernel_rfl) (by kernel_rfl) (fun _ _ _ h => hp _ _ _ _ _ h) (Or.inl ⟨by rfl, ?_⟩) (by assumption) ?_
  · intro w hSw
    (try dsimp only at hSw)
    go_simp
  (try simp only [Act.put, List.getElem_toArray, List.getElem_cons_zero, List.getElem_cons_succ, List.setIfInBounds_toArray, List.set_cons_zero, List.set_cons_succ])
  refine wpAnyH_done (by kernel_rfl) ?_ _
  exact h_ _ _ _ _ _ _ _ _ _ _ _ _ _ _ _ _ hB0
set_option maxRecDepth 100000 in
set_option maxHeartbeats 1000000 in
theorem lc10 {Q : Exit → Act → World → Prop} {t0 t1 t4 t6 t7 t8 t9 t10 t11 t12 t13 t14 t15 t16 t17 t18 t19 t20 t21 t22 t23 t24 t25 t26 t27 t28 t29 t30 t31 t32 t33 t34 t35 t36 t37 t38 t39 t40 t41 t42 t43 t44 t45 t46 t47 t48 t49 t50 t51 t52 t53 t54 t55 t56 t57 t58 t59 t60 t61 t62 t63 t64 t65 t66 t67 t68 t69 t70 t71 t72 t73 t74 t75 t76 t77 t78 t79 t80 t81 t82 t83 t84 t85 t86 t87 t88 t89 t90 t91 t92 t93 t94 t95 t96 t97 t98 t99 t100 : Value} {W : World} {A B n c n2 c2 : Nat} {h g : Hd} {a a2 : Option Addr} {j : Nat} {nb no mb mo : Nat} {s p : ByteArray} {q : Bool}
    (hA : BxV A h (.slice a n c) W) (hB : BxV B g (.slice a2 n2 c2) W) (hk : h.k = 6) (ha : h.na = some ⟨nb, no, none⟩) (hb : g.na = some ⟨mb, mo, none⟩) (hj : (j : Int) < (h.ns.length : Int)) (hj2 : (j : Int) < (g.ns.length : Int)) (h1 : W.cell? ⟨nb, no + j, none⟩ = some (.string s)) (h2 : W.cell? ⟨mb, mo + j, none⟩ = some (.string p)) (hq : (s.toList != p.toList) = q)
    (hp : ∀ p d v a w, Q (.panic p) (Act.put a d v) w → Q (.panic p) a w) (h_ : ∀ ws v52 v53 v54 v55 v56 v57 v58 v59 v60 v61 v62 v63 v64 v65 v66, Below W.heap.size W ws → Q .normal { tmps := (t0 :: t1 :: (.pointer (some ⟨A, 0, none⟩)) :: (.pointer (some ⟨B, 0, none⟩)) :: t4 :: (.int .i64 (j : Nat)) :: t6 :: t7 :: t8 :: t9 :: t10 :: t11 :: t12 :: t13 :: t14 :: t15 :: t16 :: t17 :: t18 :: t19 :: t20 :: t21 :: t22 :: t23 :: t24 :: t25 :: t26 :: t27 :: t28 :: t29 :: t30 :: t31 :: t32 :: t33 :: t34 :: t35 :: t36 :: t37 :: t38 :: t39 :: t40 :: t41 :: t42 :: t43 :: t44 :: t45 :: t46 :: t47 :: t48 :: t49 :: t50 :: t51 :: v52 :: v53 :: v54 :: v55 :: v56 :: v57 :: v58 :: v59 :: v60 :: v61 :: v62 :: v63 :: v64 :: v65 :: v66 :: .bool q :: t68 :: t69 :: t70 :: t71 :: t72 :: t73 :: t74 :: t75 :: t76 :: t77 :: t78 :: t79 :: t80 :: t81 :: t82 :: t83 :: t84 :: t85 :: t86 :: t87 :: t88 :: t89 :: t90 :: t91 :: t92 :: t93 :: t94 :: t95 :: t96 :: t97 :: t98 :: t99 :: t100 :: []).toArray, defers := [] } ws) :
    Code.wp Try.prog (Code.region 10 #[{ dst := some 52, op := Op.fieldAddr 33 (Operand.tmp 2) 0, type := 0, pos := "l13_patch.go:176", after := #[], guard := none }, { dst := some 53, op := Op.load 3 (Operand.tmp 52), type := 3, pos := "l13_patch.go:176", after := #[{ on := 0, ground := Ground.data }], guard := none }, { dst := some 54, op := Op.binOp BinOp.eql 3 (Operand.tmp 53) (Operand.const (Value.int IntKind.i64 6)) 3, type := 4, pos := "l13_patch.go:176", after := #[{ on := 1, ground := Ground.data }], guard := none }, { dst := some 55, op := Op.move (Operand.tmp 54), type := 4, pos := "l13_patch.go:176", after := #[{ on := 2, ground := Ground.data }], guard := none }, { dst := some 56, op := Op.fieldAddr 33 (Operand.tmp 2) 4, type := 0, pos := "l13_patch.go:176", after := #[{ on := 3, ground := Ground.guard }], guard := some (3, true) }, { dst := some 57, op := Op.load 25 (Operand.tmp 56), type := 25, pos := "l13_patch.go:176", after := #[{ on := 4, ground := Ground.data }, { on := 3, ground := Ground.guard }], guard := some (3, true) }, { dst := some 58, op := Op.move (Operand.tmp 5), type := 3, pos := "l13_patch.go:176", after := #[{ on := 3, ground := Ground.guard }], guard := some (3, true) }, { dst := some 59, op := Op.indexAddr 25 (Operand.tmp 57) (Operand.tmp 58), type := 0, pos := "l13_patch.go:176", after := #[{ on := 5, ground := Ground.data }, { on := 6, ground := Ground.data }, { on := 3, ground := Ground.guard }], guard := some (3, true) }, { dst := some 60, op := Op.load 9 (Operand.tmp 59), type := 9, pos := "l13_patch.go:176", after := #[{ on := 7, ground := Ground.data }, { on := 3, ground := Ground.guard }], guard := some (3, true) }, { dst := some 61, op := Op.fieldAddr 33 (Operand.tmp 3) 4, type := 0, pos := "l13_patch.go:176", after := #[{ on := 3, ground := Ground.guard }], guard := some (3, true) }, { dst := some 62, op := Op.load 25 (Operand.tmp 61), type := 25, pos := "l13_patch.go:176", after := #[{ on := 9, ground := Ground.data }, { on := 3, ground := Ground.guard }], guard := some (3, true) }, { dst := some 63, op := Op.move (Operand.tmp 5), type := 3, pos := "l13_patch.go:176", after := #[{ on := 3, ground := Ground.guard }], guard := some (3, true) }, { dst := some 64, op := Op.indexAddr 25 (Operand.tmp 62) (Operand.tmp 63), type := 0, pos := "l13_patch.go:176", after := #[{ on := 10, ground := Ground.data }, { on := 11, ground := Ground.data }, { on := 3, ground := Ground.guard }], guard := some (3, true) }, { dst := some 65, op := Op.load 9 (Operand.tmp 64), type := 9, pos := "l13_patch.go:176", after := #[{ on := 12, ground := Ground.data }, { on := 3, ground := Ground.guard }], guard := some (3, true) }, { dst := some 66, op := Op.binOp BinOp.neq 9 (Operand.tmp 60) (Operand.tmp 65) 9, type := 4, pos := "l13_patch.go:176", after := #[{ on := 8, ground := Ground.data }, { on := 13, ground := Ground.data }, { on := 3, ground := Ground.guard }], guard := some (3, true) }, { dst := some 67, op := Op.pick (Operand.tmp 55) (Operand.tmp 66) (Operand.const (Value.bool false)), type := 4, pos := "l13_patch.go:176", after := #[{ on := 3, ground := Ground.data }, { on := 14, ground := Ground.data }], guard := none }] true) Q { tmps := (t0 :: t1 :: (.pointer (some ⟨A, 0, none⟩)) :: (.pointer (some ⟨B, 0, none⟩)) :: t4 :: (.int .i64 (j : Nat)) :: t6 :: t7 :: t8 :: t9 :: t10 :: t11 :: t12 :: t13 :: t14 :: t15 :: t16 :: t17 :: t18 :: t19 :: t20 :: t21 :: t22 :: t23 :: t24 :: t25 :: t26 :: t27 :: t28 :: t29 :: t30 :: t31 :: t32 :: t33 :: t34 :: t35 :: t36 :: t37 :: t38 :: t39 :: t40 :: t41 :: t42 :: t43 :: t44 :: t45 :: t46 :: t47 :: t48 :: t49 :: t50 :: t51 :: t52 :: t53 :: t54 :: t55 :: t56 :: t57 :: t58 :: t59 :: t60 :: t61 :: t62 :: t63 :: t64 :: t65 :: t66 :: t67 :: t68 :: t69 :: t70 :: t71 :: t72 :: t73 :: t74 :: t75 :: t76 :: t77 :: t78 :: t79 :: t80 :: t81 :: t82 :: t83 :: t84 :: t85 :: t86 :: t87 :: t88 :: t89 :: t90 :: t91 :: t92 :: t93 :: t94 :: t95 :: t96 :: t97 :: t98 :: t99 :: t100 :: []).toArray, defers := [] } W := by
  have HSof : Hid (∀ w', Below W.heap.size W w' → (w'.cell? ⟨A, 0, none⟩ = some (.int .i64 6) ∧ w'.cell? ⟨A, 5, none⟩ = some (.slice (some ⟨nb, no, none⟩) h.ns.length h.nc) ∧ w'.cell? ⟨B, 5, none⟩ = some (.slice (some ⟨mb, mo, none⟩) g.ns.length g.nc)) ∧ w'.cell? ⟨nb, no + j, none⟩ = some (.string s) ∧ w'.cell? ⟨mb, mo + j, none⟩ = some (.string p)) := fun w' h => by
    have h3 := hA.below h
    have h4 := hB.below h
    exact ⟨⟨by rw [← hk]; exact h3.1, by rw [← ha]; exact h3.2.2.2.2.2, by rw [← hb]; exact h4.2.2.2.2.2⟩, (h.cell (p := ⟨nb, no + j, none⟩) (World.block_lt_of_cell? _ _ h1)).trans h1, (h.cell (p := ⟨mb, mo + j, none⟩) (World.block_lt_of_cell? _ _ h2)).trans h2⟩
  have hB0 := (Below.refl W.heap.size W).drew
  have hS0 := HSof.out _ hB0
  clear hA hB hk ha hb h1 h2
  refine wp_region_held_drew (S := fun w' => (w'.cell? ⟨A, 0, none⟩ = some (.int .i64 6) ∧ w'.cell? ⟨A, 5, none⟩ = some (.slice (some ⟨nb, no, none⟩) h.ns.length h.nc) ∧ w'.cell? ⟨B, 5, none⟩ = some (.slice (some ⟨mb, mo, none⟩) g.ns.length g.nc)) ∧ w'.cell? ⟨nb, no + j, none⟩ = some (.string s) ∧ w'.cell? ⟨mb, mo + j, none⟩ = some (.string p)) (by kernel_rfl) hS0 (fun hHeld => ?_)
  refine wpAnyH_take (i := 0) (v := .pointer (some ⟨A, 0, none⟩)) rfl (by kernel_rfl) (by kernel_rfl) (by kernel_rfl) (fun _ _ _ h => hp _ _ _ _ _ h) (Or.inl ⟨by rfl, ?_⟩) (by assumption) ?_
  · intro w hSw
    (try dsimp only at hSw)
    go_simp
  (try simp only [Act.put, List.getElem_toArray, List.getElem_cons_zero, List.setIfInBounds_toArray, List.set_cons_zero, List.set_cons_succ])
  refine wpAnyH_take (i := 1) (v := .int .i64 6) rfl (by kernel_rfl) (by kernel_rfl) (by kernel_rfl) (fun _ _ _ h => hp _ _ _ _ _ h) (Or.inl ⟨by rfl, ?_⟩) (by assumption) ?_
  · intro w hSw
    (try dsimp only at hSw)
    go_simp
  (try simp only [Act.put, List.getElem_toArray, List.getElem_cons_zero, List.getElem_cons_succ, List.setIfInBounds_toArray, List.set_cons_zero, List.set_cons_succ])
  refine wpAnyH_take (i := 2) (v := .bool true) rfl (by kernel_rfl) (by kernel_rfl) (by kernel_rfl) (fun _ _ _ h => hp _ _ _ _ _ h) (Or.inl ⟨by rfl, ?_⟩) (by assumption) ?_
  · intro w hSw
    (try dsimp only at hSw)
    go_simp
  (try simp only [Act.put, List.getElem_toArray, List.getElem_cons_zero, List.getElem_cons_succ, List.setIfInBounds_toArray, List.set_cons_zero, List.set_cons_succ])
  refine wpAnyH_take (i := 3) (v := .bool true) rfl (by kernel_rfl) (by kernel_rfl) (by kernel_rfl) (fun _ _ _ h => hp _ _ _ _ _ h) (Or.inl ⟨by rfl, ?_⟩) (by assumption) ?_
  · intro w hSw
    (try dsimp only at hSw)
    go_simp
  (try simp only [Act.put, List.getElem_toArray, List.getElem_cons_zero, List.getElem_cons_succ, List.setIfInBounds_toArray, List.set_cons_zero, List.set_cons_succ])
  refine wpAnyH_take (i := 4) (v := .pointer (some ⟨A, 5, none⟩)) rfl (by kernel_rfl) (by kernel_rfl) (by kernel_rfl) (fun _ _ _ h => hp _ _ _ _ _ h) (Or.inl ⟨by rfl, ?_⟩) (by assumption) ?_
  · intro w hSw
    (try dsimp only at hSw)
    go_simp
  (try simp only [Act.put, List.getElem_toArray, List.getElem_cons_zero, List.getElem_cons_succ, List.setIfInBounds_toArray, List.set_cons_zero, List.set_cons_succ])
  refine wpAnyH_take (i := 5) (v := .slice (some ⟨nb, no, none⟩) h.ns.length h.nc) rfl (by kernel_rfl) (by kernel_rfl) (by kernel_rfl) (fun _ _ _ h => hp _ _ _ _ _ h) (Or.inl ⟨by rfl, ?_⟩) (by assumption) ?_
  · intro w hSw
    (try dsimp only at hSw)
    go_simp
  (try simp only [Act.put, List.getElem_toArray, List.getElem_cons_zero, List.getElem_cons_succ, List.setIfInBounds_toArray, List.set_cons_zero, List.set_cons_succ])
  refine wpAnyH_take (i := 6) (v := .int .i64 (j : Nat)) rfl (by kernel_rfl) (by kernel_rfl) (by kernel_rfl) (fun _ _ _ h => hp _ _ _ _ _ h) (Or.inl ⟨by rfl, ?_⟩) (by assumption) ?_
  · intro w hSw
    (try dsimp only at hSw)
    go_simp
  (try simp only [Act.put, List.getElem_toArray, List.getElem_cons_zero, List.getElem_cons_succ, List.setIfInBounds_toArray, List.set_cons_zero, List.set_cons_succ])
  refine wpAnyH_take (i := 7) (v := .pointer (some ⟨nb, no + j, none⟩)) rfl (by kernel_rfl) (by kernel_rfl) (by kernel_rfl) (fun _ _ _ h => hp _ _ _ _ _ h) (Or.inl ⟨by rfl, ?_⟩) (by assumption) ?_
  · intro w hSw
    (try dsimp only at hSw)
    go_simp
  (try simp only [Act.put, List.getElem_toArray, List.getElem_cons_zero, List.getElem_cons_succ, List.setIfInBounds_toArray, List.set_cons_zero, List.set_cons_succ])
  refine wpAnyH_take (i := 8) (v := .string s) rfl (by kernel_rfl) (by kernel_rfl) (by kernel_rfl) (fun _ _ _ h => hp _ _ _ _ _ h) (Or.inl ⟨by rfl, ?_⟩) (by assumption) ?_
  · intro w hSw
    (try dsimp only at hSw)
    go_simp
  (try simp only [Act.put, List.getElem_toArray, List.getElem_cons_zero, List.getElem_cons_succ, List.setIfInBounds_toArray, List.set_cons_zero, List.set_cons_succ])
  refine wpAnyH_take (i := 9) (v := .pointer (some ⟨B, 5, none⟩)) rfl (by kernel_rfl) (by kernel_rfl) (by kernel_rfl) (fun _ _ _ h => hp _ _ _ _ _ h) (Or.inl ⟨by rfl, ?_⟩) (by assumption) ?_
  · intro w hSw
    (try dsimp only at hSw)
    go_simp
  (try simp only [Act.put, List.getElem_toArray, List.getElem_cons_zero, List.getElem_cons_succ, List.setIfInBounds_toArray, List.set_cons_zero, List.set_cons_succ])
  refine wpAnyH_take (i := 10) (v := .slice (some ⟨mb, mo, none⟩) g.ns.length g.nc) rfl (by kernel_rfl) (by kernel_rfl) (by kernel_rfl) (fun _ _ _ h => hp _ _ _ _ _ h) (Or.inl ⟨by rfl, ?_⟩) (by assumption) ?_
  · intro w hSw
    (try dsimp only at hSw)
    go_simp
  (try simp only [Act.put, List.getElem_toArray, List.getElem_cons_zero, List.getElem_cons_succ, List.setIfInBounds_toArray, List.set_cons_zero, List.set_cons_succ])
  refine wpAnyH_take (i := 11) (v := .int .i64 (j : Nat)) rfl (by kernel_rfl) (by kernel_rfl) (by kernel_rfl) (fun _ _ _ h => hp _ _ _ _ _ h) (Or.inl ⟨by rfl, ?_⟩) (by assumption) ?_
  · intro w hSw
    (try dsimp only at hSw)
    go_simp
  (try simp only [Act.put, List.getElem_toArray, List.getElem_cons_zero, List.getElem_cons_succ, List.setIfInBounds_toArray, List.set_cons_zero, List.set_cons_succ])
  refine wpAnyH_take (i := 12) (v := .pointer (some ⟨mb, mo + j, none⟩)) rfl (by kernel_rfl) (by kernel_rfl) (by kernel_rfl) (fun _ _ _ h => hp _ _ _ _ _ h) (Or.inl ⟨by rfl, ?_⟩) (by assumption) ?_
  · intro w hSw
    (try dsimp only at hSw)
    go_simp
  (try simp only [Act.put, List.getElem_toArray, List.getElem_cons_zero, List.getElem_cons_succ, List.setIfInBounds_toArray, List.set_cons_zero, List.set_cons_succ])
  refine wpAnyH_take (i := 13) (v := .string p) rfl (by kernel_rfl) (by kernel_rfl) (by kernel_rfl) (fun _ _ _ h => hp _ _ _ _ _ h) (Or.inl ⟨by rfl, ?_⟩) (by assumption) ?_
  · intro w hSw
    (try dsimp only at hSw)
    go_simp
  (try simp only [Act.put, List.getElem_toArray, List.getElem_cons_zero, List.getElem_cons_succ, List.setIfInBounds_toArray, List.set_cons_zero, List.set_cons_succ])
  refine wpAnyH_take (i := 14) (v := .bool q) rfl (by kernel_rfl) (by kernel_rfl) (by kernel_rfl) (fun _ _ _ h => hp _ _ _ _ _ h) (Or.inl ⟨by rfl, ?_⟩) (by assumption) ?_
  · intro w hSw
    (try dsimp only at hSw)
    (go_simp; rw [← hq]; simp [bne])
  (try simp only [Act.put, List.getElem_toArray, List.getElem_cons_zero, List.getElem_cons_succ, List.setIfInBounds_toArray, List.set_cons_zero, List.set_cons_succ])
  refine wpAnyH_take (i := 15) (v := .bool q) rfl (by kernel_rfl) (by kernel_rfl) (by kernel_rfl) (fun _ _ _ h => hp _ _ _ _ _ h) (Or.inl ⟨by rfl, ?_⟩) (by assumption) ?_
  · intro w hSw
    (try dsimp only at hSw)
    go_simp
  (try simp only [Act.put, List.getElem_toArray, List.getElem_cons_zero, List.getElem_cons_succ, List.setIfInBounds_toArray, List.set_cons_zero, List.set_cons_succ])
  refine wpAnyH_done (by kernel_rfl) ?_ _
  exact h_ _ _ _ _ _ _ _ _ _ _ _ _ _ _ _ _ hB0
set_option maxRecDepth 100000 in
set_option maxHeartbeats 1000000 in
theorem lc11 {Q : Exit → Act → World → Prop} {t0 t1 t4 t6 t7 t8 t9 t10 t11 t12 t13 t14 t15 t16 t17 t18 t19 t20 t21 t22 t23 t24 t25 t26 t27 t28 t29 t30 t31 t32 t33 t34 t35 t36 t37 t38 t39 t40 t41 t42 t43 t44 t45 t46 t47 t48 t49 t50 t51 t52 t53 t54 t55 t56 t57 t58 t59 t60 t61 t62 t63 t64 t65 t66 t67 t68 t69 t70 t71 t72 t73 t74 t75 t76 t77 t78 t79 t80 t81 t82 t83 t84 t85 t86 t87 t88 t89 t90 t91 t92 t93 t94 t95 t96 t97 t98 t99 t100 : Value} {W : World} {A B n c n2 c2 : Nat} {h g : Hd} {a a2 : Option Addr} {j nb no mb mo : Nat} {s p : ByteArray}
    (hA : BxV A h (.slice a n c) W) (hB : BxV B g (.slice a2 n2 c2) W) (ha : h.na = some ⟨nb, no, none⟩) (hb : g.na = some ⟨mb, mo, none⟩) (hj : (j : Int) < (h.ns.length : Int)) (hj2 : (j : Int) < (g.ns.length : Int)) (h1 : W.cell? ⟨nb, no + j, none⟩ = some (.string s)) (h2 : W.cell? ⟨mb, mo + j, none⟩ = some (.string p))
    (hp : ∀ p d v a w, Q (.panic p) (Act.put a d v) w → Q (.panic p) a w) (h_ : ∀ ws v68 v69 v70 v71 v72 v73 v74 v75 v76 v77 v78, Below W.heap.size W ws → Q .normal { tmps := (t0 :: t1 :: (.pointer (some ⟨A, 0, none⟩)) :: (.pointer (some ⟨B, 0, none⟩)) :: (.int .i64 (tord s p)) :: (.int .i64 (j : Nat)) :: t6 :: t7 :: t8 :: t9 :: t10 :: t11 :: t12 :: t13 :: t14 :: t15 :: t16 :: t17 :: t18 :: t19 :: t20 :: t21 :: t22 :: t23 :: t24 :: t25 :: t26 :: t27 :: t28 :: t29 :: t30 :: t31 :: t32 :: t33 :: t34 :: t35 :: t36 :: t37 :: t38 :: t39 :: t40 :: t41 :: t42 :: t43 :: t44 :: t45 :: t46 :: t47 :: t48 :: t49 :: t50 :: t51 :: t52 :: t53 :: t54 :: t55 :: t56 :: t57 :: t58 :: t59 :: t60 :: t61 :: t62 :: t63 :: t64 :: t65 :: t66 :: t67 :: v68 :: v69 :: v70 :: v71 :: v72 :: v73 :: v74 :: v75 :: v76 :: v77 :: v78 :: t79 :: t80 :: t81 :: t82 :: t83 :: t84 :: t85 :: t86 :: t87 :: t88 :: t89 :: t90 :: t91 :: t92 :: t93 :: t94 :: t95 :: t96 :: t97 :: t98 :: t99 :: t100 :: []).toArray, defers := [] } ws) :
    Code.wp Try.prog (Code.region 11 #[{ dst := some 68, op := Op.fieldAddr 33 (Operand.tmp 2) 4, type := 0, pos := "l13_patch.go:177", after := #[], guard := none }, { dst := some 69, op := Op.load 25 (Operand.tmp 68), type := 25, pos := "l13_patch.go:177", after := #[{ on := 0, ground := Ground.data }], guard := none }, { dst := some 70, op := Op.move (Operand.tmp 5), type := 3, pos := "l13_patch.go:177", after := #[], guard := none }, { dst := some 71, op := Op.indexAddr 25 (Operand.tmp 69) (Operand.tmp 70), type := 0, pos := "l13_patch.go:177", after := #[{ on := 1, ground := Ground.data }, { on := 2, ground := Ground.data }], guard := none }, { dst := some 72, op := Op.load 9 (Operand.tmp 71), type := 9, pos := "l13_patch.go:177", after := #[{ on := 3, ground := Ground.data }], guard := none }, { dst := some 73, op := Op.fieldAddr 33 (Operand.tmp 3) 4, type := 0, pos := "l13_patch.go:177", after := #[], guard := none }, { dst := some 74, op := Op.load 25 (Operand.tmp 73), type := 25, pos := "l13_patch.go:177", after := #[{ on := 5, ground := Ground.data }], guard := none }, { dst := some 75, op := Op.move (Operand.tmp 5), type := 3, pos := "l13_patch.go:177", after := #[], guard := none }, { dst := some 76, op := Op.indexAddr 25 (Operand.tmp 74) (Operand.tmp 75), type := 0, pos := "l13_patch.go:177", after := #[{ on := 6, ground := Ground.data }, { on := 7, ground := Ground.data }], guard := none }, { dst := some 77, op := Op.load 9 (Operand.tmp 76), type := 9, pos := "l13_patch.go:177", after := #[{ on := 8, ground := Ground.data }], guard := none }, { dst := some 78, op := Op.call { callee := Callee.value (Operand.func 50), args := #[Operand.tmp 72, Operand.tmp 77], argTypes := #[9, 9] }, type := 3, pos := "l13_patch.go:177", after := #[{ on := 4, ground := Ground.data }, { on := 9, ground := Ground.data }], guard := none }, { dst := some 4, op := Op.assign (Operand.tmp 78), type := 3, pos := "l13_patch.go:177", after := #[{ on := 10, ground := Ground.data }, { on := 10, ground := Ground.chain }, { on := 0, ground := Ground.phase }, { on := 1, ground := Ground.phase }, { on := 2, ground := Ground.phase }, { on := 3, ground := Ground.phase }, { on := 4, ground := Ground.phase }, { on := 5, ground := Ground.phase }, { on := 6, ground := Ground.phase }, { on := 7, ground := Ground.phase }, { on := 8, ground := Ground.phase }, { on := 9, ground := Ground.phase }, { on := 10, ground := Ground.phase }], guard := none }] true) Q { tmps := (t0 :: t1 :: (.pointer (some ⟨A, 0, none⟩)) :: (.pointer (some ⟨B, 0, none⟩)) :: t4 :: (.int .i64 (j : Nat)) :: t6 :: t7 :: t8 :: t9 :: t10 :: t11 :: t12 :: t13 :: t14 :: t15 :: t16 :: t17 :: t18 :: t19 :: t20 :: t21 :: t22 :: t23 :: t24 :: t25 :: t26 :: t27 :: t28 :: t29 :: t30 :: t31 :: t32 :: t33 :: t34 :: t35 :: t36 :: t37 :: t38 :: t39 :: t40 :: t41 :: t42 :: t43 :: t44 :: t45 :: t46 :: t47 :: t48 :: t49 :: t50 :: t51 :: t52 :: t53 :: t54 :: t55 :: t56 :: t57 :: t58 :: t59 :: t60 :: t61 :: t62 :: t63 :: t64 :: t65 :: t66 :: t67 :: t68 :: t69 :: t70 :: t71 :: t72 :: t73 :: t74 :: t75 :: t76 :: t77 :: t78 :: t79 :: t80 :: t81 :: t82 :: t83 :: t84 :: t85 :: t86 :: t87 :: t88 :: t89 :: t90 :: t91 :: t92 :: t93 :: t94 :: t95 :: t96 :: t97 :: t98 :: t99 :: t100 :: []).toArray, defers := [] } W := by
  have HSof : Hid (∀ w', Below W.heap.size W w' → (w'.cell? ⟨A, 5, none⟩ = some (.slice (some ⟨nb, no, none⟩) h.ns.length h.nc) ∧ w'.cell? ⟨B, 5, none⟩ = some (.slice (some ⟨mb, mo, none⟩) g.ns.length g.nc)) ∧ w'.cell? ⟨nb, no + j, none⟩ = some (.string s) ∧ w'.cell? ⟨mb, mo + j, none⟩ = some (.string p)) := fun w' h => by
    have h3 := hA.below h
    have h4 := hB.below h
    exact ⟨⟨by rw [← ha]; exact h3.2.2.2.2.2, by rw [← hb]; exact h4.2.2.2.2.2⟩, (h.cell (p := ⟨nb, no + j, none⟩) (World.block_lt_of_cell? _ _ h1)).trans h1, (h.cell (p := ⟨mb, mo + j, none⟩) (World.block_lt_of_cell? _ _ h2)).trans h2⟩
  have hB0 := (Below.refl W.heap.size W).drew
  have hS0 := HSof.out _ hB0
  clear hA hB ha hb h1 h2
  refine wp_region_held_drew (S := fun w' => (w'.cell? ⟨A, 5, none⟩ = some (.slice (some ⟨nb, no, none⟩) h.ns.length h.nc) ∧ w'.cell? ⟨B, 5, none⟩ = some (.slice (some ⟨mb, mo, none⟩) g.ns.length g.nc)) ∧ w'.cell? ⟨nb, no + j, none⟩ = some (.string s) ∧ w'.cell? ⟨mb, mo + j, none⟩ = some (.string p)) (by kernel_rfl) hS0 (fun hHeld => ?_)
  refine wpAnyH_take (i := 0) (v := .pointer (some ⟨A, 5, none⟩)) rfl (by kernel_rfl) (by kernel_rfl) (by kernel_rfl) (fun _ _ _ h => hp _ _ _ _ _ h) (Or.inl ⟨by rfl, ?_⟩) (by assumption) ?_
  · intro w hSw
    (try dsimp only at hSw)
    go_simp
  (try simp only [Act.put, List.getElem_toArray, List.getElem_cons_zero, List.setIfInBounds_toArray, List.set_cons_zero, List.set_cons_succ])
  refine wpAnyH_take (i := 1) (v := .slice (some ⟨nb, no, none⟩) h.ns.length h.nc) rfl (by kernel_rfl) (by kernel_rfl) (by kernel_rfl) (fun _ _ _ h => hp _ _ _ _ _ h) (Or.inl ⟨by rfl, ?_⟩) (by assumption) ?_
  · intro w hSw
    (try dsimp only at hSw)
    go_simp
  (try simp only [Act.put, List.getElem_toArray, List.getElem_cons_zero, List.getElem_cons_succ, List.setIfInBounds_toArray, List.set_cons_zero, List.set_cons_succ])
  refine wpAnyH_take (i := 2) (v := .int .i64 (j : Nat)) rfl (by kernel_rfl) (by kernel_rfl) (by kernel_rfl) (fun _ _ _ h => hp _ _ _ _ _ h) (Or.inl ⟨by rfl, ?_⟩) (by assumption) ?_
  · intro w hSw
    (try dsimp only at hSw)
    go_simp
  (try simp only [Act.put, List.getElem_toArray, List.getElem_cons_zero, List.getElem_cons_succ, List.setIfInBounds_toArray, List.set_cons_zero, List.set_cons_succ])
  refine wpAnyH_take (i := 3) (v := .pointer (some ⟨nb, no + j, none⟩)) rfl (by kernel_rfl) (by kernel_rfl) (by kernel_rfl) (fun _ _ _ h => hp _ _ _ _ _ h) (Or.inl ⟨by rfl, ?_⟩) (by assumption) ?_
  · intro w hSw
    (try dsimp only at hSw)
    go_simp
  (try simp only [Act.put, List.getElem_toArray, List.getElem_cons_zero, List.getElem_cons_succ, List.setIfInBounds_toArray, List.set_cons_zero, List.set_cons_succ])
  refine wpAnyH_take (i := 4) (v := .string s) rfl (by kernel_rfl) (by kernel_rfl) (by kernel_rfl) (fun _ _ _ h => hp _ _ _ _ _ h) (Or.inl ⟨by rfl, ?_⟩) (by assumption) ?_
  · intro w hSw
    (try dsimp only at hSw)
    go_simp
  (try simp only [Act.put, List.getElem_toArray, List.getElem_cons_zero, List.getElem_cons_succ, List.setIfInBounds_toArray, List.set_cons_zero, List.set_cons_succ])
  refine wpAnyH_take (i := 5) (v := .pointer (some ⟨B, 5, none⟩)) rfl (by kernel_rfl) (by kernel_rfl) (by kernel_rfl) (fun _ _ _ h => hp _ _ _ _ _ h) (Or.inl ⟨by rfl, ?_⟩) (by assumption) ?_
  · intro w hSw
    (try dsimp only at hSw)
    go_simp
  (try simp only [Act.put, List.getElem_toArray, List.getElem_cons_zero, List.getElem_cons_succ, List.setIfInBounds_toArray, List.set_cons_zero, List.set_cons_succ])
  refine wpAnyH_take (i := 6) (v := .slice (some ⟨mb, mo, none⟩) g.ns.length g.nc) rfl (by kernel_rfl) (by kernel_rfl) (by kernel_rfl) (fun _ _ _ h => hp _ _ _ _ _ h) (Or.inl ⟨by rfl, ?_⟩) (by assumption) ?_
  · intro w hSw
    (try dsimp only at hSw)
    go_simp
  (try simp only [Act.put, List.getElem_toArray, List.getElem_cons_zero, List.getElem_cons_succ, List.setIfInBounds_toArray, List.set_cons_zero, List.set_cons_succ])
  refine wpAnyH_take (i := 7) (v := .int .i64 (j : Nat)) rfl (by kernel_rfl) (by kernel_rfl) (by kernel_rfl) (fun _ _ _ h => hp _ _ _ _ _ h) (Or.inl ⟨by rfl, ?_⟩) (by assumption) ?_
  · intro w hSw
    (try dsimp only at hSw)
    go_simp
  (try simp only [Act.put, List.getElem_toArray, List.getElem_cons_zero, List.getElem_cons_succ, List.setIfInBounds_toArray, List.set_cons_zero, List.set_cons_succ])
  refine wpAnyH_take (i := 8) (v := .pointer (some ⟨mb, mo + j, none⟩)) rfl (by kernel_rfl) (by kernel_rfl) (by kernel_rfl) (fun _ _ _ h => hp _ _ _ _ _ h) (Or.inl ⟨by rfl, ?_⟩) (by assumption) ?_
  · intro w hSw
    (try dsimp only at hSw)
    go_simp
  (try simp only [Act.put, List.getElem_toArray, List.getElem_cons_zero, List.getElem_cons_succ, List.setIfInBounds_toArray, List.set_cons_zero, List.set_cons_succ])
  refine wpAnyH_take (i := 9) (v := .string p) rfl (by kernel_rfl) (by kernel_rfl) (by kernel_rfl) (fun _ _ _ h => hp _ _ _ _ _ h) (Or.inl ⟨by rfl, ?_⟩) (by assumption) ?_
  · intro w hSw
    (try dsimp only at hSw)
    go_simp
  (try simp only [Act.put, List.getElem_toArray, List.getElem_cons_zero, List.getElem_cons_succ, List.setIfInBounds_toArray, List.set_cons_zero, List.set_cons_succ])
  refine wpAnyH_ready (rs := [10]) (by kernel_rfl) (by simp) ?_
  refine AllReadyH.cons rfl (fun K hK => ?_) AllReadyH.nil
  go_simp
  refine (l8Texts_any s p _).mono ?_
  rintro r w1 ⟨rfl, hw1⟩
  subst w1
  go_wp2_with fail
  refine hK.out _ _ (HSof.out _ hB0) (fun hHeld => ?_)
  clear hK K
  refine wpAnyH_take (i := 11) (v := .int .i64 (tord s p)) rfl (by kernel_rfl) (by kernel_rfl) (by kernel_rfl) (fun _ _ _ h => hp _ _ _ _ _ h) (Or.inl ⟨by rfl, ?_⟩) (by assumption) ?_
  · intro w hSw
    (try dsimp only at hSw)
    go_simp
  (try simp only [Act.put, List.getElem_toArray, List.getElem_cons_zero, List.getElem_cons_succ, List.setIfInBounds_toArray, List.set_cons_zero, List.set_cons_succ])
  refine wpAnyH_done (by kernel_rfl) ?_ _
  exact h_ _ _ _ _ _ _ _ _ _ _ _ _ hB0
set_option maxRecDepth 100000 in
set_option maxHeartbeats 1000000 in
theorem lc12 {Q : Exit → Act → World → Prop} {t0 t1 t4 t6 t7 t8 t9 t10 t11 t12 t13 t14 t15 t16 t17 t18 t19 t20 t21 t22 t23 t24 t25 t26 t27 t28 t29 t30 t31 t32 t33 t34 t35 t36 t37 t38 t39 t40 t41 t42 t43 t44 t45 t46 t47 t48 t49 t50 t51 t52 t53 t54 t55 t56 t57 t58 t59 t60 t61 t62 t63 t64 t65 t66 t67 t68 t69 t70 t71 t72 t73 t74 t75 t76 t77 t78 t79 t80 t81 t82 t83 t84 t85 t86 t87 t88 t89 t90 t91 t92 t93 t94 t95 t96 t97 t98 t99 t100 : Value} {W : World} {A B n c n2 c2 b o b2 o2 j nx cx ny cy : Nat} {h g x y : Hd} {ax ay : Option Addr} {V : Int}
    (hA : BxV A h (.slice (some ⟨b, o, none⟩) n c) W) (hB : BxV B g (.slice (some ⟨b2, o2, none⟩) n2 c2) W) (hj : (j : Int) < (n : Int)) (hj2 : (j : Int) < (n2 : Int)) (h1 : Cells6 W b (o + j * 6) x (.slice ax nx cx)) (h2 : Cells6 W b2 (o2 + j * 6) y (.slice ay ny cy)) (hcall : ∀ W', Below W.heap.size W W' → Calls Try.prog 30 #[valV x ax nx cx, valV y ay ny cy] W' fun r w' => r = .returned (.int .i64 V) ∧ Below W'.heap.size W' w')
    (hp : ∀ p d v a w, Q (.panic p) (Act.put a d v) w → Q (.panic p) a w) (h_ : ∀ ws v79 v80 v81 v82 v83 v84 v85 v86 v87 v88 v89, Below W.heap.size W ws → Q .normal { tmps := (t0 :: t1 :: (.pointer (some ⟨A, 0, none⟩)) :: (.pointer (some ⟨B, 0, none⟩)) :: t4 :: (.int .i64 (j : Nat)) :: (.int .i64 V) :: t7 :: t8 :: t9 :: t10 :: t11 :: t12 :: t13 :: t14 :: t15 :: t16 :: t17 :: t18 :: t19 :: t20 :: t21 :: t22 :: t23 :: t24 :: t25 :: t26 :: t27 :: t28 :: t29 :: t30 :: t31 :: t32 :: t33 :: t34 :: t35 :: t36 :: t37 :: t38 :: t39 :: t40 :: t41 :: t42 :: t43 :: t44 :: t45 :: t46 :: t47 :: t48 :: t49 :: t50 :: t51 :: t52 :: t53 :: t54 :: t55 :: t56 :: t57 :: t58 :: t59 :: t60 :: t61 :: t62 :: t63 :: t64 :: t65 :: t66 :: t67 :: t68 :: t69 :: t70 :: t71 :: t72 :: t73 :: t74 :: t75 :: t76 :: t77 :: t78 :: v79 :: v80 :: v81 :: v82 :: v83 :: v84 :: v85 :: v86 :: v87 :: v88 :: v89 :: t90 :: t91 :: t92 :: t93 :: t94 :: t95 :: t96 :: t97 :: t98 :: t99 :: t100 :: []).toArray, defers := [] } ws) :
    Code.wp Try.prog (Code.region 12 #[{ dst := some 79, op := Op.fieldAddr 33 (Operand.tmp 2) 3, type := 0, pos := "l13_patch.go:179", after := #[], guard := none }, { dst := some 80, op := Op.load 31 (Operand.tmp 79), type := 31, pos := "l13_patch.go:179", after := #[{ on := 0, ground := Ground.data }], guard := none }, { dst := some 81, op := Op.move (Operand.tmp 5), type := 3, pos := "l13_patch.go:179", after := #[], guard := none }, { dst := some 82, op := Op.indexAddr 31 (Operand.tmp 80) (Operand.tmp 81), type := 0, pos := "l13_patch.go:179", after := #[{ on := 1, ground := Ground.data }, { on := 2, ground := Ground.data }], guard := none }, { dst := some 83, op := Op.load 33 (Operand.tmp 82), type := 33, pos := "l13_patch.go:179", after := #[{ on := 3, ground := Ground.data }], guard := none }, { dst := some 84, op := Op.fieldAddr 33 (Operand.tmp 3) 3, type := 0, pos := "l13_patch.go:179", after := #[], guard := none }, { dst := some 85, op := Op.load 31 (Operand.tmp 84), type := 31, pos := "l13_patch.go:179", after := #[{ on := 5, ground := Ground.data }], guard := none }, { dst := some 86, op := Op.move (Operand.tmp 5), type := 3, pos := "l13_patch.go:179", after := #[], guard := none }, { dst := some 87, op := Op.indexAddr 31 (Operand.tmp 85) (Operand.tmp 86), type := 0, pos := "l13_patch.go:179", after := #[{ on := 6, ground := Ground.data }, { on := 7, ground := Ground.data }], guard := none }, { dst := some 88, op := Op.load 33 (Operand.tmp 87), type := 33, pos := "l13_patch.go:179", after := #[{ on := 8, ground := Ground.data }], guard := none }, { dst := some 89, op := Op.call { callee := Callee.value (Operand.func 30), args := #[Operand.tmp 83, Operand.tmp 88], argTypes := #[33, 33] }, type := 3, pos := "l13_patch.go:179", after := #[{ on := 4, ground := Ground.data }, { on := 9, ground := Ground.data }], guard := none }, { dst := some 6, op := Op.assign (Operand.tmp 89), type := 3, pos := "l13_patch.go:179", after := #[{ on := 10, ground := Ground.data }, { on := 10, ground := Ground.chain }, { on := 0, ground := Ground.phase }, { on := 1, ground := Ground.phase }, { on := 2, ground := Ground.phase }, { on := 3, ground := Ground.phase }, { on := 4, ground := Ground.phase }, { on := 5, ground := Ground.phase }, { on := 6, ground := Ground.phase }, { on := 7, ground := Ground.phase }, { on := 8, ground := Ground.phase }, { on := 9, ground := Ground.phase }, { on := 10, ground := Ground.phase }], guard := none }] true) Q { tmps := (t0 :: t1 :: (.pointer (some ⟨A, 0, none⟩)) :: (.pointer (some ⟨B, 0, none⟩)) :: t4 :: (.int .i64 (j : Nat)) :: t6 :: t7 :: t8 :: t9 :: t10 :: t11 :: t12 :: t13 :: t14 :: t15 :: t16 :: t17 :: t18 :: t19 :: t20 :: t21 :: t22 :: t23 :: t24 :: t25 :: t26 :: t27 :: t28 :: t29 :: t30 :: t31 :: t32 :: t33 :: t34 :: t35 :: t36 :: t37 :: t38 :: t39 :: t40 :: t41 :: t42 :: t43 :: t44 :: t45 :: t46 :: t47 :: t48 :: t49 :: t50 :: t51 :: t52 :: t53 :: t54 :: t55 :: t56 :: t57 :: t58 :: t59 :: t60 :: t61 :: t62 :: t63 :: t64 :: t65 :: t66 :: t67 :: t68 :: t69 :: t70 :: t71 :: t72 :: t73 :: t74 :: t75 :: t76 :: t77 :: t78 :: t79 :: t80 :: t81 :: t82 :: t83 :: t84 :: t85 :: t86 :: t87 :: t88 :: t89 :: t90 :: t91 :: t92 :: t93 :: t94 :: t95 :: t96 :: t97 :: t98 :: t99 :: t100 :: []).toArray, defers := [] } W := by
  have HSof : Hid (∀ w', Below W.heap.size W w' → (w'.cell? ⟨A, 4, none⟩ = some (.slice (some ⟨b, o, none⟩) n c) ∧ w'.cell? ⟨B, 4, none⟩ = some (.slice (some ⟨b2, o2, none⟩) n2 c2)) ∧ C6 w' b (o + j * 6) x (.slice ax nx cx) ∧ C6 w' b2 (o2 + j * 6) y (.slice ay ny cy)) := fun w' h => ⟨⟨(hA.below h).2.2.2.2.1, (hB.below h).2.2.2.2.1⟩, h1.grow h, h2.grow h⟩
  have hB0 := (Below.refl W.heap.size W).drew
  have hS0 := HSof.out _ hB0
  clear hA hB h1 h2
  refine wp_region_held_drew (S := fun w' => (w'.cell? ⟨A, 4, none⟩ = some (.slice (some ⟨b, o, none⟩) n c) ∧ w'.cell? ⟨B, 4, none⟩ = some (.slice (some ⟨b2, o2, none⟩) n2 c2)) ∧ C6 w' b (o + j * 6) x (.slice ax nx cx) ∧ C6 w' b2 (o2 + j * 6) y (.slice ay ny cy)) (by kernel_rfl) hS0 (fun hHeld => ?_)
  refine wpAnyH_take (i := 0) (v := .pointer (some ⟨A, 4, none⟩)) rfl (by kernel_rfl) (by kernel_rfl) (by kernel_rfl) (fun _ _ _ h => hp _ _ _ _ _ h) (Or.inl ⟨by rfl, ?_⟩) (by assumption) ?_
  · intro w hSw
    (try dsimp only at hSw)
    go_simp
  (try simp only [Act.put, List.getElem_toArray, List.getElem_cons_zero, List.setIfInBounds_toArray, List.set_cons_zero, List.set_cons_succ])
  refine wpAnyH_take (i := 1) (v := .slice (some ⟨b, o, none⟩) n c) rfl (by kernel_rfl) (by kernel_rfl) (by kernel_rfl) (fun _ _ _ h => hp _ _ _ _ _ h) (Or.inl ⟨by rfl, ?_⟩) (by assumption) ?_
  · intro w hSw
    (try dsimp only at hSw)
    go_simp
  (try simp only [Act.put, List.getElem_toArray, List.getElem_cons_zero, List.getElem_cons_succ, List.setIfInBounds_toArray, List.set_cons_zero, List.set_cons_succ])
  refine wpAnyH_take (i := 2) (v := .int .i64 (j : Nat)) rfl (by kernel_rfl) (by kernel_rfl) (by kernel_rfl) (fun _ _ _ h => hp _ _ _ _ _ h) (Or.inl ⟨by rfl, ?_⟩) (by assumption) ?_
  · intro w hSw
    (try dsimp only at hSw)
    go_simp
  (try simp only [Act.put, List.getElem_toArray, List.getElem_cons_zero, List.getElem_cons_succ, List.setIfInBounds_toArray, List.set_cons_zero, List.set_cons_succ])
  refine wpAnyH_take (i := 3) (v := .pointer (some ⟨b, o + j * 6, none⟩)) rfl (by kernel_rfl) (by kernel_rfl) (by kernel_rfl) (fun _ _ _ h => hp _ _ _ _ _ h) (Or.inl ⟨by rfl, ?_⟩) (by assumption) ?_
  · intro w hSw
    (try dsimp only at hSw)
    go_simp
  (try simp only [Act.put, List.getElem_toArray, List.getElem_cons_zero, List.getElem_cons_succ, List.setIfInBounds_toArray, List.set_cons_zero, List.set_cons_succ])
  refine wpAnyH_take (i := 4) (v := valV x ax nx cx) rfl (by kernel_rfl) (by kernel_rfl) (by kernel_rfl) (fun _ _ _ h => hp _ _ _ _ _ h) (Or.inl ⟨by rfl, ?_⟩) (by assumption) ?_
  · intro w hSw
    (try dsimp only at hSw)
    go_simp
  (try simp only [Act.put, List.getElem_toArray, List.getElem_cons_zero, List.getElem_cons_succ, List.setIfInBounds_toArray, List.set_cons_zero, List.set_cons_succ])
  refine wpAnyH_take (i := 5) (v := .pointer (some ⟨B, 4, none⟩)) rfl (by kernel_rfl) (by kernel_rfl) (by kernel_rfl) (fun _ _ _ h => hp _ _ _ _ _ h) (Or.inl ⟨by rfl, ?_⟩) (by assumption) ?_
  · intro w hSw
    (try dsimp only at hSw)
    go_simp
  (try simp only [Act.put, List.getElem_toArray, List.getElem_cons_zero, List.getElem_cons_succ, List.setIfInBounds_toArray, List.set_cons_zero, List.set_cons_succ])
  refine wpAnyH_take (i := 6) (v := .slice (some ⟨b2, o2, none⟩) n2 c2) rfl (by kernel_rfl) (by kernel_rfl) (by kernel_rfl) (fun _ _ _ h => hp _ _ _ _ _ h) (Or.inl ⟨by rfl, ?_⟩) (by assumption) ?_
  · intro w hSw
    (try dsimp only at hSw)
    go_simp
  (try simp only [Act.put, List.getElem_toArray, List.getElem_cons_zero, List.getElem_cons_succ, List.setIfInBounds_toArray, List.set_cons_zero, List.set_cons_succ])
  refine wpAnyH_take (i := 7) (v := .int .i64 (j : Nat)) rfl (by kernel_rfl) (by kernel_rfl) (by kernel_rfl) (fun _ _ _ h => hp _ _ _ _ _ h) (Or.inl ⟨by rfl, ?_⟩) (by assumption) ?_
  · intro w hSw
    (try dsimp only at hSw)
    go_simp
  (try simp only [Act.put, List.getElem_toArray, List.getElem_cons_zero, List.getElem_cons_succ, List.setIfInBounds_toArray, List.set_cons_zero, List.set_cons_succ])
  refine wpAnyH_take (i := 8) (v := .pointer (some ⟨b2, o2 + j * 6, none⟩)) rfl (by kernel_rfl) (by kernel_rfl) (by kernel_rfl) (fun _ _ _ h => hp _ _ _ _ _ h) (Or.inl ⟨by rfl, ?_⟩) (by assumption) ?_
  · intro w hSw
    (try dsimp only at hSw)
    go_simp
  (try simp only [Act.put, List.getElem_toArray, List.getElem_cons_zero, List.getElem_cons_succ, List.setIfInBounds_toArray, List.set_cons_zero, List.set_cons_succ])
  refine wpAnyH_take (i := 9) (v := valV y ay ny cy) rfl (by kernel_rfl) (by kernel_rfl) (by kernel_rfl) (fun _ _ _ h => hp _ _ _ _ _ h) (Or.inl ⟨by rfl, ?_⟩) (by assumption) ?_
  · intro w hSw
    (try dsimp only at hSw)
    go_simp
  (try simp only [Act.put, List.getElem_toArray, List.getElem_cons_zero, List.getElem_cons_succ, List.setIfInBounds_toArray, List.set_cons_zero, List.set_cons_succ])
  refine wpAnyH_ready (rs := [10]) (by kernel_rfl) (by simp) ?_
  refine AllReadyH.cons rfl (fun K hK => ?_) AllReadyH.nil
  go_simp
  refine (hcall _ hB0).mono ?_
  rintro r w1 ⟨rfl, hb1⟩
  have hB1 := hB0.trans (hb1.mono hB0.size)
  go_wp2_with fail
  refine hK.out _ _ (HSof.out _ hB1) (fun hHeld => ?_)
  clear hK K hb1 hB0 hcall
  refine wpAnyH_take (i := 11) (v := .int .i64 V) rfl (by kernel_rfl) (by kernel_rfl) (by kernel_rfl) (fun _ _ _ h => hp _ _ _ _ _ h) (Or.inl ⟨by rfl, ?_⟩) (by assumption) ?_
  · intro w hSw
    (try dsimp only at hSw)
    go_simp
  (try simp only [Act.put, List.getElem_toArray, List.getElem_cons_zero, List.getElem_cons_succ, List.setIfInBounds_toArray, List.set_cons_zero, List.set_cons_succ])
  refine wpAnyH_done (by kernel_rfl) ?_ _
  exact h_ _ _ _ _ _ _ _ _ _ _ _ _ hB1
end Go.Proofs.Ytofmimoklbkeoaa
/- How two values stand to each other, by the specification: l13Cmp, ValueCmp. -/
namespace Go.Proofs.Ytofmimoklbkeoaa
open Go.RowKit
def hd_in (h g : Hd) (w : World) : Prop := h.In w ∧ g.In w
set_option maxRecDepth 100000 in
set_option maxHeartbeats 2000000 in
theorem l13Cmp_step (N : Nat) (H : OrdC 30 N) : OrdC 30 (N + 1) := by
  intro h a c F g a2 c2 G w hF hin hl hc hh hin2 hl2 hc2 hg hf hf2
  unfold maxLen at hc hc2
  go_enter Try.func30, Try.ntmps30
  obtain ⟨wp, hwp⟩ : ∃ wp, wp = (w.alloc (.cells #[.int .i64 h.k, .int .i64 h.m, .int .i64 h.e, .string h.t, .slice a F.len c, .slice h.na h.ns.length h.nc] 33)).alloc (.cells #[.int .i64 g.k, .int .i64 g.m, .int .i64 g.e, .string g.t, .slice a2 G.len c2, .slice g.na g.ns.length g.nc] 33) := ⟨_, rfl⟩
  have hBp : Below w.heap.size w wp := by subst hwp; exact ((Below.refl _ w).alloc (Nat.le_refl _) _).alloc (by simp) _
  have hA : BxV w.heap.size h (.slice a F.len c) wp := by subst hwp; exact (BxV.new w h _ _).below ((Below.refl _ _).alloc (Nat.le_refl _) _)
  have hB : BxV (w.heap.size + 1) g (.slice a2 G.len c2) wp := by
    subst hwp
    have h9 := BxV.new (w.alloc (.cells #[.int .i64 h.k, .int .i64 h.m, .int .i64 h.e, .string h.t, .slice a F.len c, .slice h.na h.ns.length h.nc] 33)) g (.slice a2 G.len c2) 33
    rw [World.size_alloc] at h9
    exact h9
  have hX1 : Hid (∀ W, Below wp.heap.size wp W → BxV w.heap.size h (.slice a F.len c) W ∧ BxV (w.heap.size + 1) g (.slice a2 G.len c2) W) := fun W hW => ⟨hA.below hW, hB.below hW⟩
  have hwp' := hwp
  clear hwp hA hB
  have HW := hideIt hwp'
  clear hwp'
  by_cases hk : h.k = g.k
  case neg =>
    have e : (h.k != g.k) = true := by simpa using hk
    have HR : Hid (vord (N + 1) h F g G = Dm.sgn (h.k - g.k)) := by
      have e1 : hord h g = Dm.sgn (h.k - g.k) := if_neg hk
      have e2 : ¬ hord h g = 0 := by rw [e1]; intro x; have := (Dm.sgn_iff (h.k - g.k)).2.2.1 x; omega
      unfold Hid; rw [← e1]; exact if_neg e2
    have hr := one_kind hf.1
    have hr2 := one_kind hf2.1
    have hwr : IntKind.i64.wrap (h.k - g.k) = h.k - g.k := by rw [IntKind.wrap_i64]; omega
    clear hin hin2 hh hg H hf hf2 hX1 hk
    go_wp2_with fail
    rw [← HW.out]
    refine (l1Sign_any _ _).mono ?_
    rintro r w2 ⟨rfl, hw2⟩
    subst w2
    clear HW
    go_wp2_with fail
    go_ret
    exact ⟨by rw [HR.out]; rfl, hBp⟩
  have e : (h.k != g.k) = false := by rw [hk]; simp
  have HKk := hideIt hk
  clear hk
  by_cases hm1 : h.m = g.m
  case neg =>
    have hm : ¬ (h.m = g.m ∧ h.e = g.e) := fun x => hm1 x.1
    have HR : Hid (vord (N + 1) h F g G = Dm.cmp h.m h.e g.m g.e) := by
      have e1 : hord h g = Dm.cmp h.m h.e g.m g.e := by unfold hord; rw [if_pos HKk.out, if_neg hm]
      have e2 : ¬ hord h g = 0 := by rw [e1]; intro x; exact hm ((Dm.cmp_zero (one_dec hf.1) (one_dec hf2.1)).1 x)
      unfold Hid; rw [← e1]; exact if_neg e2
    have ho := hideIt (one_dec hf.1)
    have ho2 := hideIt (one_dec hf2.1)
    clear hin hin2 hh hg H hf hf2 hX1 hm HKk
    go_wp2_with fail
    rw [← HW.out]
    refine (l1Cmp_any _ _ _ _ _ ho.out ho2.out).mono ?_
    rintro r w2 ⟨rfl, hb2⟩
    have hB2 := hBp.trans (hb2.mono hBp.size)
    clear HW hb2
    go_wp2_with fail
    go_ret
    exact ⟨by rw [HR.out]; rfl, hB2⟩
  by_cases hm2 : h.e = g.e
  case neg =>
    have hm : ¬ (h.m = g.m ∧ h.e = g.e) := fun x => hm2 x.2
    have HR : Hid (vord (N + 1) h F g G = Dm.cmp h.m h.e g.m g.e) := by
      have e1 : hord h g = Dm.cmp h.m h.e g.m g.e := by unfold hord; rw [if_pos HKk.out, if_neg hm]
      have e2 : ¬ hord h g = 0 := by rw [e1]; intro x; exact hm ((Dm.cmp_zero (one_dec hf.1) (one_dec hf2.1)).1 x)
      unfold Hid; rw [← e1]; exact if_neg e2
    have ho : Hid (Dm.ok g.m h.e = true) := by have q := one_dec hf.1; rw [hm1] at q; exact q
    have ho2 := hideIt (one_dec hf2.1)
    rw [hm1] at HR
    have HW0 := HW.out
    rw [hm1] at HW0
    clear HW
    have HW := hideIt HW0
    clear HW0
    clear hin hin2 hh hg H hf hf2 hX1 hm HKk
    go_wp2_with fail
    rw [← HW.out]
    refine (l1Cmp_any _ _ _ _ _ ho.out ho2.out).mono ?_
    rintro r w2 ⟨rfl, hb2⟩
    have hB2 := hBp.trans (hb2.mono hBp.size)
    clear HW hb2
    go_wp2_with fail
    go_ret
    exact ⟨by rw [HR.out]; rfl, hB2⟩
  have hm := And.intro hm1 hm2
  clear hm1 hm2
  have e1a := hm.1
  have e1b := hm.2
  have HM0 := hideIt hm
  have HW0 := HW.out
  rw [hm.1, hm.2] at HW0
  have HW2 := hideIt HW0
  clear hm HW HW0
  by_cases ht : h.t = g.t
  case neg =>
    have e2 : (h.t.toList == g.t.toList) = false := by simpa using fun x => ht (text_ext x)
    have HR : Hid (vord (N + 1) h F g G = tord h.t g.t) := by
      have e1 : hord h g = tord h.t g.t := by unfold hord; rw [if_pos HKk.out, if_pos HM0.out]
      have e2 : ¬ hord h g = 0 := by rw [e1]; intro x; exact ht (tord_zero.1 x)
      unfold Hid; rw [← e1]; exact if_neg e2
    clear hin hin2 hh hg H hf hf2 hX1 ht HKk HM0
    go_wp2_with fail
    rw [← HW2.out]
    refine (l8Texts_any _ _ _).mono ?_
    rintro r w2 ⟨rfl, hw2⟩
    subst w2
    clear HW2
    go_wp2_with fail
    go_ret
    exact ⟨by rw [HR.out]; rfl, hBp⟩
  have e2 : (h.t.toList == g.t.toList) = true := by rw [ht]; simp
  have hz : hord h g = 0 := by unfold hord; rw [if_pos HKk.out, if_pos HM0.out]; exact tord_zero.2 ht
  obtain ⟨M, hM⟩ : ∃ M, min F.len G.len = M := ⟨_, rfl⟩
  have HR : Hid (vord (N + 1) h F g G = ford (vord N) (h.k == 6) h.ns g.ns F G M 0) := by unfold Hid; rw [← hM]; exact if_pos hz
  have hMF : M ≤ F.len := by omega
  have hMG : M ≤ G.len := by omega
  have hMc : M = F.len ∨ M = G.len := by omega
  have HMi : Hid ((M ≤ F.len ∧ M ≤ G.len) ∧ (M = F.len ∨ M = G.len)) := ⟨⟨hMF, hMG⟩, hMc⟩
  have HBp := hideIt hBp
  have HIn : Hid ((∀ W, Below wp.heap.size wp W → F.In W a ∧ G.In W a2) ∧ hd_in h g w) := ⟨fun W hW => ⟨hin.grow (hBp.trans (hW.mono hBp.size)), hin2.grow (hBp.trans (hW.mono hBp.size))⟩, hh, hg⟩
  have HFit := hideIt (And.intro hf hf2)
  clear hin hin2 hh hg hf hf2 hz hM hBp ht hMF hMG hMc
  go_wp2_with fail
  rw [← HW2.out]
  clear HW2
  go_loopw [5] (fun i wr => ∃ j : Nat, i = .int .i64 j ∧ j ≤ M ∧ ford (vord N) (h.k == 6) h.ns g.ns F G (M - j) j = ford (vord N) (h.k == 6) h.ns g.ns F G M 0 ∧ Below wp.heap.size wp wr) (fun i _ => M - (intOf i).toNat)
  case atStart => exact ⟨0, rfl, Nat.zero_le _, rfl, Below.refl _ _⟩
  case round =>
    obtain ⟨j, rfl, hj, hfo, hb⟩ := hrel
    have HF := hideIt hfo
    clear hfo
    obtain ⟨⟨x0, x1, x2, x3, x4, x5⟩, y0, y1, y2, y3, y4, y5⟩ := hX1.out _ hb
    by_cases hjM : j < M
    case neg =>
      have ej : j = M := by omega
      have HL : Hid (Dm.sgn ((F.len : Int) - (G.len : Int)) = ford (vord N) (h.k == 6) h.ns g.ns F G (M - j) j) := by unfold Hid; rw [show M - j = 0 by omega]; rfl
      have hwr : IntKind.i64.wrap ((F.len : Int) - (G.len : Int)) = (F.len : Int) - (G.len : Int) := by rw [IntKind.wrap_i64]; omega
      by_cases hjF : j < F.len
      · have h1 : (j : Int) < (F.len : Int) := by omega
        have h2 : ¬ (j : Int) < (G.len : Int) := by have := HMi.out; omega
        clear ej hjM
        go_wp2_with fail
        refine (l1Sign_any _ _).mono ?_
        rintro r w2 ⟨rfl, hw2⟩
        subst w2
        go_wp2_with fail
        go_ret
        exact ⟨by rw [HR.out, ← HF.out, ← HL.out]; rfl, HBp.out.trans (hb.mono HBp.out.size)⟩
      · have h1 : ¬ (j : Int) < (F.len : Int) := by omega
        clear ej hjM
        go_wp2_with fail
        refine (l1Sign_any _ _).mono ?_
        rintro r w2 ⟨rfl, hw2⟩
        subst w2
        go_wp2_with fail
        go_ret
        exact ⟨by rw [HR.out, ← HF.out, ← HL.out]; rfl, HBp.out.trans (hb.mono HBp.out.size)⟩
    have hjF : j < F.len := by have := HMi.out; omega
    have hjG : j < G.len := by have := HMi.out; omega
    have hjl : (j : Int) < (F.len : Int) := by omega
    have hjl2 : (j : Int) < (G.len : Int) := by omega
    obtain ⟨b, o, rfl, hFr⟩ := Vo.from_of_len (HIn.out.1 _ (Below.refl _ _)).1 hjF
    obtain ⟨b2, o2, rfl, hGr⟩ := Vo.from_of_len (HIn.out.1 _ (Below.refl _ _)).2 hjG
    have HC : Hid (∀ W', Below wp.heap.size wp W' → Cells6 W' b (o + j * 6) (F.hdAt j) (.slice (F.addrAt j) (F.kidsAt j).len (F.capAt j)) ∧ Cells6 W' b2 (o2 + j * 6) (G.hdAt j) (.slice (G.addrAt j) (G.kidsAt j).len (G.capAt j))) := fun W' hW => ⟨(Vo.from_at (Vo.from_grow hW F b o hFr) hjF).1, (Vo.from_at (Vo.from_grow hW G b2 o2 hGr) hjG).1⟩
    have HK : Hid (∀ W', Below wp.heap.size wp W' → Calls Try.prog 30 #[valV (F.hdAt j) (F.addrAt j) (F.kidsAt j).len (F.capAt j), valV (G.hdAt j) (G.addrAt j) (G.kidsAt j).len (G.capAt j)] W' fun r w' => r = .returned (.int .i64 (vord N (F.hdAt j) (F.kidsAt j) (G.hdAt j) (G.kidsAt j))) ∧ Below W'.heap.size W' w') := fun W' hW => by
      obtain ⟨_, x2, ⟨x3, x4⟩, x5⟩ := Vo.from_at (Vo.from_grow hW F b o hFr) hjF
      obtain ⟨_, y2, ⟨y3, y4⟩, y5⟩ := Vo.from_at (Vo.from_grow hW G b2 o2 hGr) hjG
      have hs := Vo.size_at hjF
      exact H _ _ _ _ _ _ _ _ W' (by omega) x2 x3 x4 x5 y2 y3 y4 y5 (fit_at HFit.out.1 hjF) (fit_at HFit.out.2 hjG)
    have HN := hideIt (@ford_next (vord N) (h.k == 6) h.ns g.ns F G M j hjM)
    have HN2 := hideIt (@ford_here (vord N) (h.k == 6) h.ns g.ns F G M j hjM)
    clear hFr hGr H
    by_cases hob : h.k = 6
    case pos =>
      obtain ⟨nb, no, q1, q2, q3⟩ := names_at HIn.out.2.1 (HBp.out.trans (hb.mono HBp.out.size)) HFit.out.1.1 hob hjF
      obtain ⟨mb, mo, q4, q5, q6⟩ := names_at HIn.out.2.2 (HBp.out.trans (hb.mono HBp.out.size)) HFit.out.2.1 (HKk.out.symm.trans hob) hjG
      have hob' : (h.k == 6) = true := by rw [hob]; rfl
      by_cases hne : nmAt h.ns j = nmAt g.ns j
      · have HPe : Hid (pord (vord N) (h.k == 6) h.ns g.ns F G j = vord N (F.hdAt j) (F.kidsAt j) (G.hdAt j) (G.kidsAt j)) := if_neg (fun x => x.2 hne)
        have hq : ((nmAt h.ns j).toList != (nmAt g.ns j).toList) = false := by rw [hne]; simp
        have HQ := hideIt (And.intro hob (And.intro q1 q4))
        have HQ6 := hideIt (And.intro q3 q6)
        clear hob hob' hne q1 q4 q3 q6
        go_wp2_with fail
        refine lc10 (hX1.out _ hb).1 (hX1.out _ hb).2 HQ.out.1 HQ.out.2.1 HQ.out.2.2 q2 q5 HQ6.out.1 HQ6.out.2 hq (fun _ d _ _ _ h => by cases d <;> exact h) ?_
        intro w1 v52 v53 v54 v55 v56 v57 v58 v59 v60 v61 v62 v63 v64 v65 v66 hb1
        clear HQ HQ6 hq q2 q5
        clear x0 x1 x2 x3 x4 x5 y0 y1 y2 y3 y4 y5
        have hbb1 := hb.trans (hb1.mono hb.size)
        go_wp2_with fail
        refine lc12 (hX1.out _ hbb1).1 (hX1.out _ hbb1).2 hjl hjl2 (HC.out _ hbb1).1 (HC.out _ hbb1).2 (fun W' hW => HK.out W' (hbb1.trans (hW.mono hbb1.size))) (fun _ d _ _ _ h => by cases d <;> exact h) ?_
        intro w2 v79 v80 v81 v82 v83 v84 v85 v86 v87 v88 v89 hb2
        have hbb2 := hbb1.trans (hb2.mono hbb1.size)
        rw [HPe.out] at HN HN2
        generalize vord N (F.hdAt j) (F.kidsAt j) (G.hdAt j) (G.kidsAt j) = P at HN HN2 ⊢
        clear HC HK hb1 hb2 hbb1 HPe
        by_cases hp : P = 0
        · have e : (P != 0) = false := by rw [hp]; rfl
          have HP := hideIt hp
          clear hp
          go_wp2_with fail
          go_round
          case rel => exact ⟨j + 1, by go_num, by omega, by rw [HN.out HP.out]; exact HF.out, hbb2⟩
          case measure => simp [intOf]; omega
        · have e : (P != 0) = true := by simpa using hp
          go_wp2_with fail
          go_ret
          exact ⟨by rw [HR.out, ← HF.out, ← HN2.out hp]; rfl, HBp.out.trans (hbb2.mono HBp.out.size)⟩
      · have HPe : Hid (pord (vord N) (h.k == 6) h.ns g.ns F G j = tord (nmAt h.ns j) (nmAt g.ns j)) := if_pos ⟨hob', hne⟩
        have hne0 : ¬ tord (nmAt h.ns j) (nmAt g.ns j) = 0 := fun x => hne (tord_zero.1 x)
        have HNe := hideIt hne0
        have hq : ((nmAt h.ns j).toList != (nmAt g.ns j).toList) = true := by
          simp only [bne_iff_ne, ne_eq]
          exact fun x => hne (text_ext x)
        have HQ := hideIt (And.intro hob (And.intro q1 q4))
        have HQ6 := hideIt (And.intro q3 q6)
        clear hob hob' hne q1 q4 q3 q6 hne0
        go_wp2_with fail
        refine lc10 (hX1.out _ hb).1 (hX1.out _ hb).2 HQ.out.1 HQ.out.2.1 HQ.out.2.2 q2 q5 HQ6.out.1 HQ6.out.2 hq (fun _ d _ _ _ h => by cases d <;> exact h) ?_
        intro w1 v52 v53 v54 v55 v56 v57 v58 v59 v60 v61 v62 v63 v64 v65 v66 hb1
        have hbb1 := hb.trans (hb1.mono hb.size)
        have f3 := (hb1.cell (p := ⟨nb, no + j, none⟩) (World.block_lt_of_cell? _ _ HQ6.out.1)).trans HQ6.out.1
        have f6 := (hb1.cell (p := ⟨mb, mo + j, none⟩) (World.block_lt_of_cell? _ _ HQ6.out.2)).trans HQ6.out.2
        have HQ7 := hideIt (And.intro f3 f6)
        clear hq HQ6 f3 f6 HC HK
        clear x0 x1 x2 x3 x4 x5 y0 y1 y2 y3 y4 y5
        go_wp2_with fail
        refine lc11 (hX1.out _ hbb1).1 (hX1.out _ hbb1).2 HQ.out.2.1 HQ.out.2.2 q2 q5 HQ7.out.1 HQ7.out.2 (fun _ d _ _ _ h => by cases d <;> exact h) ?_
        intro w2 v68 v69 v70 v71 v72 v73 v74 v75 v76 v77 v78 hb2
        have hbb2 := hbb1.trans (hb2.mono hbb1.size)
        clear HQ HQ7 hb1 hb2 hbb1
        go_wp2_with fail
        go_ret
        exact ⟨by rw [HR.out, ← HF.out, ← HN2.out (by rw [HPe.out]; exact HNe.out), HPe.out]; rfl, HBp.out.trans (hbb2.mono HBp.out.size)⟩
    case neg =>
      have hob' : (h.k == 6) = false := by simpa using hob
      have HPe : Hid (pord (vord N) (h.k == 6) h.ns g.ns F G j = vord N (F.hdAt j) (F.kidsAt j) (G.hdAt j) (G.kidsAt j)) := if_neg (fun x => by rw [hob'] at x; cases x.1)
      clear hob
      have HOb := hideIt hob'
      clear hob'
      go_wp2_with fail
      refine lc10n (B := w.heap.size + 1) (hX1.out _ hb).1 HOb.out (fun _ d _ _ _ h => by cases d <;> exact h) ?_
      intro w1 v52 v53 v54 v55 v56 v57 v58 v59 v60 v61 v62 v63 v64 v65 v66 hb1
      clear HOb
      clear x0 x1 x2 x3 x4 x5 y0 y1 y2 y3 y4 y5
      have hbb1 := hb.trans (hb1.mono hb.size)
      go_wp2_with fail
      refine lc12 (hX1.out _ hbb1).1 (hX1.out _ hbb1).2 hjl hjl2 (HC.out _ hbb1).1 (HC.out _ hbb1).2 (fun W' hW => HK.out W' (hbb1.trans (hW.mono hbb1.size))) (fun _ d _ _ _ h => by cases d <;> exact h) ?_
      intro w2 v79 v80 v81 v82 v83 v84 v85 v86 v87 v88 v89 hb2
      have hbb2 := hbb1.trans (hb2.mono hbb1.size)
      rw [HPe.out] at HN HN2
      generalize vord N (F.hdAt j) (F.kidsAt j) (G.hdAt j) (G.kidsAt j) = P at HN HN2 ⊢
      clear HC HK hb1 hb2 hbb1 HPe
      by_cases hp : P = 0
      · have e : (P != 0) = false := by rw [hp]; rfl
        have HP := hideIt hp
        clear hp
        go_wp2_with fail
        go_round
        case rel => exact ⟨j + 1, by go_num, by omega, by rw [HN.out HP.out]; exact HF.out, hbb2⟩
        case measure => simp [intOf]; omega
      · have e : (P != 0) = true := by simpa using hp
        go_wp2_with fail
        go_ret
        exact ⟨by rw [HR.out, ← HF.out, ← HN2.out hp]; rfl, HBp.out.trans (hbb2.mono HBp.out.size)⟩
theorem l13Cmp_all (N : Nat) : OrdC 30 N := by
  induction N with
  | zero => intro h a c F g a2 c2 G w hF; omega
  | succ N ih => exact l13Cmp_step N ih
end Go.Proofs.Ytofmimoklbkeoaa
/- How two values stand to each other: ValueCmp, of the program and of the specification. -/
namespace Go.Proofs.Ytofmimoklbkeoaa
open Go.RowKit
set_option maxRecDepth 100000 in
set_option maxHeartbeats 1000000 in
theorem sValueCmp_any (h : Hd) (a : Option Addr) (c : Nat) (F : Vo) (g : Hd) (a2 : Option Addr) (c2 : Nat) (G : Vo) (w : World) (hF : F.size ≤ 1048576) (hG : G.size ≤ 1048576) (hin : F.In w a) (hl : F.len ≤ c) (hc : c ≤ maxLen) (hh : h.In w) (hin2 : G.In w a2) (hl2 : G.len ≤ c2) (hc2 : c2 ≤ maxLen) (hg : g.In w) :
    Calls Try.prog 12 #[valV h a F.len c, valV g a2 G.len c2] w fun r w' => r = .returned (.int .i64 (vcmp h F g G)) ∧ Below w.heap.size w w' := by
  obtain ⟨wp, hwp⟩ : ∃ wp, wp = (w.alloc (.cells #[.int .i64 h.k, .int .i64 h.m, .int .i64 h.e, .string h.t, .slice a F.len c, .slice h.na h.ns.length h.nc] 33)).alloc (.cells #[.int .i64 g.k, .int .i64 g.m, .int .i64 g.e, .string g.t, .slice a2 G.len c2, .slice g.na g.ns.length g.nc] 33) := ⟨_, rfl⟩
  have hBp : Below w.heap.size w wp := by subst hwp; exact ((Below.refl _ w).alloc (Nat.le_refl _) _).alloc (by simp) _
  have hA : BxV w.heap.size h (.slice a F.len c) wp := by subst hwp; exact (BxV.new w h _ _).below ((Below.refl _ _).alloc (Nat.le_refl _) _)
  have hB : BxV (w.heap.size + 1) g (.slice a2 G.len c2) wp := by
    subst hwp
    have h9 := BxV.new (w.alloc (.cells #[.int .i64 h.k, .int .i64 h.m, .int .i64 h.e, .string h.t, .slice a F.len c, .slice h.na h.ns.length h.nc] 33)) g (.slice a2 G.len c2) 33
    rw [World.size_alloc] at h9
    exact h9
  have hX1 : Hid (∀ W, Below wp.heap.size wp W → BxV w.heap.size h (.slice a F.len c) W ∧ BxV (w.heap.size + 1) g (.slice a2 G.len c2) W) := fun W hW => ⟨hA.below hW, hB.below hW⟩
  have HI : Hid (∀ W, Below wp.heap.size wp W → ((F.In W a ∧ h.In W) ∧ G.In W a2 ∧ g.In W) ∧ Below w.heap.size w W) := fun W hW => by
    have hb := hBp.trans (hW.mono hBp.size)
    exact ⟨⟨⟨hin.grow hb, hh.grow hb⟩, hin2.grow hb, hg.grow hb⟩, hb⟩
  have HW := hideIt hwp
  have hB0 := Below.refl wp.heap.size wp
  clear hwp hA hB hin hh hin2 hg hBp
  go_enter Try.func12, Try.ntmps12
  go_wp2_with fail
  rw [← HW.out]
  clear HW
  refine (sValueOk_any h a c F _ (by omega) (HI.out _ hB0).1.1.1 hl hc (HI.out _ hB0).1.1.2).mono ?_
  rintro r w1 ⟨⟨q1, rfl, hq1⟩, hb1⟩
  have HQ1 := hideIt (hq1)
  clear hq1
  obtain ⟨⟨x0, x1, x2, x3, x4, x5⟩, y0, y1, y2, y3, y4, y5⟩ := hX1.out _ hb1
  cases q1
  · have HR : Hid (vcmp h F g G = 0) := vcmp_no (.inl (fun x => by have := HQ1.out.2 x; cases this))
    have hbb := (HI.out _ hb1).2
    go_wp2_with fail
    go_ret
    exact ⟨by rw [HR.out]; rfl, hbb⟩
  · go_wp2_with fail
    refine (sValueOk_any g a2 c2 G _ (by omega) (HI.out _ hb1).1.2.1 hl2 hc2 (HI.out _ hb1).1.2.2).mono ?_
    rintro r w2 ⟨⟨q2, rfl, hq2⟩, hb2⟩
    have HQ2 := hideIt (hq2)
    clear hq2
    have hB2 := hb1.trans (hb2.mono hb1.size)
    clear x0 x1 x2 x3 x4 x5 y0 y1 y2 y3 y4 y5 hb1 hb2 hB0
    obtain ⟨⟨x0, x1, x2, x3, x4, x5⟩, y0, y1, y2, y3, y4, y5⟩ := hX1.out _ hB2
    cases q2
    · have HR : Hid (vcmp h F g G = 0) := vcmp_no (.inr (fun x => by have := HQ2.out.2 x; cases this))
      have hbb := (HI.out _ hB2).2
      go_wp2_with fail
      go_ret
      exact ⟨by rw [HR.out]; rfl, hbb⟩
    · have hv : ValOk h F := by have q := HQ1.out; simpa using q
      have hv2 : ValOk g G := by have q := HQ2.out; simpa using q
      have HR : Hid (vcmp h F g G = vord 200 h F g G) := vcmp_ok hv hv2
      have HV := hideIt (And.intro hv hv2)
      clear hv hv2 HQ1 HQ2
      go_wp2_with fail
      refine (l13Cmp_all 200 h a c F g a2 c2 G _ (by have h9 : F.size + 1 ≤ 200 := HV.out.1.1; omega) (HI.out _ hB2).1.1.1 hl hc (HI.out _ hB2).1.1.2 (HI.out _ hB2).1.2.1 hl2 hc2 (HI.out _ hB2).1.2.2 HV.out.1.2.2 HV.out.2.2.2).mono ?_
      rintro r w3 ⟨rfl, hb3⟩
      have hbb := (HI.out _ (hB2.trans (hb3.mono hB2.size))).2
      clear x0 x1 x2 x3 x4 x5 y0 y1 y2 y3 y4 y5 hb3 hB2
      rw [← HR.out]
      go_wp2_with fail
      go_ret
      exact ⟨rfl, hbb⟩
set_option maxRecDepth 100000 in
set_option maxHeartbeats 1000000 in
theorem iValueCmp_any (h : Hd) (a : Option Addr) (c : Nat) (F : Vo) (g : Hd) (a2 : Option Addr) (c2 : Nat) (G : Vo) (w : World) (hF : F.size ≤ 1048576) (hG : G.size ≤ 1048576) (hin : F.In w a) (hl : F.len ≤ c) (hc : c ≤ maxLen) (hh : h.In w) (hin2 : G.In w a2) (hl2 : G.len ≤ c2) (hc2 : c2 ≤ maxLen) (hg : g.In w) :
    Calls Try.prog 13 #[valV h a F.len c, valV g a2 G.len c2] w fun r w' => r = .returned (.int .i64 (vcmp h F g G)) ∧ Below w.heap.size w w' := by
  obtain ⟨wp, hwp⟩ : ∃ wp, wp = (w.alloc (.cells #[.int .i64 h.k, .int .i64 h.m, .int .i64 h.e, .string h.t, .slice a F.len c, .slice h.na h.ns.length h.nc] 33)).alloc (.cells #[.int .i64 g.k, .int .i64 g.m, .int .i64 g.e, .string g.t, .slice a2 G.len c2, .slice g.na g.ns.length g.nc] 33) := ⟨_, rfl⟩
  have hBp : Below w.heap.size w wp := by subst hwp; exact ((Below.refl _ w).alloc (Nat.le_refl _) _).alloc (by simp) _
  have hA : BxV w.heap.size h (.slice a F.len c) wp := by subst hwp; exact (BxV.new w h _ _).below ((Below.refl _ _).alloc (Nat.le_refl _) _)
  have hB : BxV (w.heap.size + 1) g (.slice a2 G.len c2) wp := by
    subst hwp
    have h9 := BxV.new (w.alloc (.cells #[.int .i64 h.k, .int .i64 h.m, .int .i64 h.e, .string h.t, .slice a F.len c, .slice h.na h.ns.length h.nc] 33)) g (.slice a2 G.len c2) 33
    rw [World.size_alloc] at h9
    exact h9
  have hX1 : Hid (∀ W, Below wp.heap.size wp W → BxV w.heap.size h (.slice a F.len c) W ∧ BxV (w.heap.size + 1) g (.slice a2 G.len c2) W) := fun W hW => ⟨hA.below hW, hB.below hW⟩
  have HI : Hid (∀ W, Below wp.heap.size wp W → ((F.In W a ∧ h.In W) ∧ G.In W a2 ∧ g.In W) ∧ Below w.heap.size w W) := fun W hW => by
    have hb := hBp.trans (hW.mono hBp.size)
    exact ⟨⟨⟨hin.grow hb, hh.grow hb⟩, hin2.grow hb, hg.grow hb⟩, hb⟩
  have HW := hideIt hwp
  have hB0 := Below.refl wp.heap.size wp
  clear hwp hA hB hin hh hin2 hg hBp
  go_enter Try.func13, Try.ntmps13
  go_wp2_with fail
  rw [← HW.out]
  clear HW
  refine (iValueOk_any h a c F _ (by omega) (HI.out _ hB0).1.1.1 hl hc (HI.out _ hB0).1.1.2).mono ?_
  rintro r w1 ⟨⟨q1, rfl, hq1⟩, hb1⟩
  have HQ1 := hideIt (hq1.trans (good_ok _ _))
  clear hq1
  obtain ⟨⟨x0, x1, x2, x3, x4, x5⟩, y0, y1, y2, y3, y4, y5⟩ := hX1.out _ hb1
  cases q1
  · have HR : Hid (vcmp h F g G = 0) := vcmp_no (.inl (fun x => by have := HQ1.out.2 x; cases this))
    have hbb := (HI.out _ hb1).2
    go_wp2_with fail
    go_ret
    exact ⟨by rw [HR.out]; rfl, hbb⟩
  · go_wp2_with fail
    refine (iValueOk_any g a2 c2 G _ (by omega) (HI.out _ hb1).1.2.1 hl2 hc2 (HI.out _ hb1).1.2.2).mono ?_
    rintro r w2 ⟨⟨q2, rfl, hq2⟩, hb2⟩
    have HQ2 := hideIt (hq2.trans (good_ok _ _))
    clear hq2
    have hB2 := hb1.trans (hb2.mono hb1.size)
    clear x0 x1 x2 x3 x4 x5 y0 y1 y2 y3 y4 y5 hb1 hb2 hB0
    obtain ⟨⟨x0, x1, x2, x3, x4, x5⟩, y0, y1, y2, y3, y4, y5⟩ := hX1.out _ hB2
    cases q2
    · have HR : Hid (vcmp h F g G = 0) := vcmp_no (.inr (fun x => by have := HQ2.out.2 x; cases this))
      have hbb := (HI.out _ hB2).2
      go_wp2_with fail
      go_ret
      exact ⟨by rw [HR.out]; rfl, hbb⟩
    · have hv : ValOk h F := by have q := HQ1.out; simpa using q
      have hv2 : ValOk g G := by have q := HQ2.out; simpa using q
      have HR : Hid (vcmp h F g G = vord 200 h F g G) := vcmp_ok hv hv2
      have HV := hideIt (And.intro hv hv2)
      clear hv hv2 HQ1 HQ2
      go_wp2_with fail
      refine (valueOrder_all 200 h a c F g a2 c2 G _ (by have h9 : F.size + 1 ≤ 200 := HV.out.1.1; omega) (HI.out _ hB2).1.1.1 hl hc (HI.out _ hB2).1.1.2 (HI.out _ hB2).1.2.1 hl2 hc2 (HI.out _ hB2).1.2.2 HV.out.1.2.2 HV.out.2.2.2).mono ?_
      rintro r w3 ⟨rfl, hb3⟩
      have hbb := (HI.out _ (hB2.trans (hb3.mono hB2.size))).2
      clear x0 x1 x2 x3 x4 x5 y0 y1 y2 y3 y4 y5 hb3 hB2
      rw [← HR.out]
      go_wp2_with fail
      go_ret
      exact ⟨rfl, hbb⟩
end Go.Proofs.Ytofmimoklbkeoaa
