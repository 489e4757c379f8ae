/- My own texts, joined: Cc Uq Vr DecN Cd. -/
import Derived.Test.YtalncebnahlmdaaJFnValueCmp16
import Derived.Test.YtalncebnahlmdaaJFnValueCmp5
import Derived.Test.YtalncebnahlmdaaJFnValueCmp6
import Derived.Test.YtalncebnahlmdaaJFnValueCmp4
/- How two values stand to each other, by the program: placeOrder, valueOrder, ValueCmp. -/
namespace Go.Proofs.Ytalncebnahlmdaa
open Go.RowKit
/-- a value of which all is right, but for how great it is -/
def Fit (h : Hd) (F : Vo) : Prop := one h F.len ∧ F.allOne
theorem fit_at {h : Hd} {F : Vo} {i : Nat} (x : Fit h F) (hi : i < F.len) : Fit (F.hdAt i) (F.kidsAt i) := allOne_at hi x.2
/-- a function tells how two values stand to each other -/
def OrdC (f N : Nat) : Prop := ∀ (h : Hd) (a : Option Addr) (c : Nat) (F : Vo) (g : Hd) (a2 : Option Addr) (c2 : Nat) (G : Vo) (w : World), F.size < N → F.In w a → F.len ≤ c → c ≤ maxLen → h.In w → G.In w a2 → G.len ≤ c2 → c2 ≤ maxLen → g.In w → Fit h F → Fit g G →
  Calls Try.prog f #[valV h a F.len c, valV g a2 G.len c2] w fun r w' => r = .returned (.int .i64 (vord N h F g G)) ∧ Below w.heap.size w w'
def PlcC (f N : Nat) : Prop := ∀ (h : Hd) (a : Option Addr) (c : Nat) (F : Vo) (g : Hd) (a2 : Option Addr) (c2 : Nat) (G : Vo) (j : Nat) (w : World), F.size ≤ N → F.In w a → F.len ≤ c → c ≤ maxLen → h.In w → G.In w a2 → G.len ≤ c2 → c2 ≤ maxLen → g.In w → Fit h F → Fit g G → h.k = g.k → j < F.len → j < G.len →
  Calls Try.prog f #[valV h a F.len c, valV g a2 G.len c2, .int .i64 j] w fun r w' => r = .returned (.int .i64 (pord (vord N) (h.k == 6) h.ns g.ns F G j)) ∧ Below w.heap.size w w'
theorem hord_kind {h g : Hd} (x : hord h g = 0) : h.k = g.k := by
  by_cases hk : h.k = g.k
  · exact hk
  · unfold hord at x
    rw [if_neg hk] at x
    have := (Dm.sgn_iff (h.k - g.k)).2.2.1 x
    omega
theorem ford_next {f : Hd → Vo → Hd → Vo → Int} {ob : Bool} {ns ms : List ByteArray} {F G : Vo} {M j : Nat} (hj : j < M) (hp : pord f ob ns ms F G j = 0) : ford f ob ns ms F G (M - (j + 1)) (j + 1) = ford f ob ns ms F G (M - j) j := by
  rw [show M - j = (M - (j + 1)) + 1 by omega]
  show _ = if _ then _ else _
  rw [if_pos hp]
theorem ford_here {f : Hd → Vo → Hd → Vo → Int} {ob : Bool} {ns ms : List ByteArray} {F G : Vo} {M j : Nat} (hj : j < M) (hp : ¬ pord f ob ns ms F G j = 0) : pord f ob ns ms F G j = ford f ob ns ms F G (M - j) j := by
  rw [show M - j = (M - (j + 1)) + 1 by omega]
  show _ = if _ then _ else _
  rw [if_neg hp]
/-- the names at a place of two objects, as they lie there -/
theorem names_at {h : Hd} {F : Vo} {w W : World} (hh : h.In w) (hb : Below w.heap.size w W) (x : one h F.len) (hk : h.k = 6) {j : Nat} (hj : j < F.len) :
    ∃ nb no, h.na = some ⟨nb, no, none⟩ ∧ (j : Int) < (h.ns.length : Int) ∧ W.cell? ⟨nb, no + j, none⟩ = some (.string (nmAt h.ns j)) := by
  have hl := one_names x hk
  have hs := nmAt_some (ns := h.ns) (i := j) (by omega)
  rcases hh.1 with e | ⟨nb, no, e, hS⟩
  · rw [e] at hl; simp at hl; omega
  · exact ⟨nb, no, e, by omega, ((hS.grow hb).at hs).1⟩
set_option maxRecDepth 100000 in
set_option maxHeartbeats 1000000 in
theorem placeOrder_step (N : Nat) (H : OrdC 35 N) : PlcC 62 N := by
  intro h a c F g a2 c2 G j w hF hin hl hc hh hin2 hl2 hc2 hg hf hf2 hk0 hj hj2
  have hk : Hid (h.k = g.k) := hk0
  clear hk0
  obtain ⟨b, o, rfl, hFr⟩ := Vo.from_of_len hin hj
  obtain ⟨b2, o2, rfl, hGr⟩ := Vo.from_of_len hin2 hj2
  have hjl : (j : Int) < (F.len : Int) := by omega
  have hjl2 : (j : Int) < (G.len : Int) := by omega
  go_enter Try.func62, Try.ntmps62
  go_wp2_with fail
  obtain ⟨wp, hwp⟩ : ∃ wp, wp = (w.alloc (.cells #[.int .i64 h.k, .int .i64 h.m, .int .i64 h.e, .string h.t, .slice (some ⟨b, o, none⟩) F.len c, .slice h.na h.ns.length h.nc] 28)).alloc (.cells #[.int .i64 g.k, .int .i64 g.m, .int .i64 g.e, .string g.t, .slice (some ⟨b2, o2, none⟩) G.len c2, .slice g.na g.ns.length g.nc] 28) := ⟨_, rfl⟩
  have hBp : Below w.heap.size w wp := by subst hwp; exact ((Below.refl _ w).alloc (Nat.le_refl _) _).alloc (by simp) _
  have hA : BxV w.heap.size h (.slice (some ⟨b, o, none⟩) F.len c) wp := by subst hwp; exact (BxV.new w h _ _).below ((Below.refl _ _).alloc (Nat.le_refl _) _)
  have hB : BxV (w.heap.size + 1) g (.slice (some ⟨b2, o2, none⟩) G.len c2) wp := by
    subst hwp
    have h9 := BxV.new (w.alloc (.cells #[.int .i64 h.k, .int .i64 h.m, .int .i64 h.e, .string h.t, .slice (some ⟨b, o, none⟩) F.len c, .slice h.na h.ns.length h.nc] 28)) g (.slice (some ⟨b2, o2, none⟩) G.len c2) 28
    rw [World.size_alloc] at h9
    exact h9
  rw [← hwp]
  clear hwp
  have HC : Hid (∀ W', Below wp.heap.size wp W' → Cells6 W' b (o + j * 6) (F.hdAt j) (.slice (F.addrAt j) (F.kidsAt j).len (F.capAt j)) ∧ Cells6 W' b2 (o2 + j * 6) (G.hdAt j) (.slice (G.addrAt j) (G.kidsAt j).len (G.capAt j))) := fun W' hW =>
    ⟨(Vo.from_at (Vo.from_grow (hBp.trans (hW.mono hBp.size)) F b o hFr) hj).1, (Vo.from_at (Vo.from_grow (hBp.trans (hW.mono hBp.size)) G b2 o2 hGr) hj2).1⟩
  have HK : Hid (∀ W', Below wp.heap.size wp W' → Calls Try.prog 35 #[valV (F.hdAt j) (F.addrAt j) (F.kidsAt j).len (F.capAt j), valV (G.hdAt j) (G.addrAt j) (G.kidsAt j).len (G.capAt j)] W' fun r w' => r = .returned (.int .i64 (vord N (F.hdAt j) (F.kidsAt j) (G.hdAt j) (G.kidsAt j))) ∧ Below W'.heap.size W' w') := fun W' hW => by
    obtain ⟨_, x2, ⟨x3, x4⟩, x5⟩ := Vo.from_at (Vo.from_grow (hBp.trans (hW.mono hBp.size)) F b o hFr) hj
    obtain ⟨_, y2, ⟨y3, y4⟩, y5⟩ := Vo.from_at (Vo.from_grow (hBp.trans (hW.mono hBp.size)) G b2 o2 hGr) hj2
    have hs := Vo.size_at hj
    exact H _ _ _ _ _ _ _ _ W' (by omega) x2 x3 x4 x5 y2 y3 y4 y5 (fit_at hf hj) (fit_at hf2 hj2)
  by_cases hob : h.k = 6
  · obtain ⟨nb, no, e1, e2, e3⟩ := names_at hh hBp hf.1 hob hj
    obtain ⟨mb, mo, e4, e5, e6⟩ := names_at hg hBp hf2.1 (hk.out.symm.trans hob) hj2
    have hob' : (h.k == 6) = true := by rw [hob]; rfl
    by_cases hne : nmAt h.ns j = nmAt g.ns j
    · have HR : Hid (pord (vord N) (h.k == 6) h.ns g.ns F G j = vord N (F.hdAt j) (F.kidsAt j) (G.hdAt j) (G.kidsAt j)) := if_neg (fun x => x.2 hne)
      have hq : ((nmAt h.ns j).toList != (nmAt g.ns j).toList) = false := by rw [hne]; simp
      clear hin hin2 hFr hGr hh hg H hf hf2 hk hob' hne
      refine po1 hA hB hob e1 e4 e2 e5 e3 e6 hq (fun _ d _ _ _ h => by cases d <;> exact h) ?_
      intro w1 v7 v8 v9 v10 v11 v12 v13 v14 v15 v16 v17 v18 v19 v20 v21 hb1
      have hA1 := hA.below hb1
      have hB1 := hB.below hb1
      clear hA hB e3 e6 hob e1 e4 e2 e5 hq
      go_wp2_with fail
      refine po3 hA1 hB1 hjl hjl2 (HC.out _ hb1).1 (HC.out _ hb1).2 (fun W' hW => HK.out W' (hb1.trans (hW.mono hb1.size))) (fun _ d _ _ _ h => by cases d <;> exact h) ?_
      intro w2 v34 v35 v36 v37 v38 v39 v40 v41 v42 v43 v44 hb2
      have hB2 := hBp.trans ((hb1.trans (hb2.mono hb1.size)).mono hBp.size)
      clear hA1 hB1 HC HK hb1 hb2
      go_wp2_with fail
      go_ret
      exact ⟨by rw [HR.out]; rfl, hB2⟩
    · have HR : Hid (pord (vord N) (h.k == 6) h.ns g.ns F G j = tord (nmAt h.ns j) (nmAt g.ns j)) := if_pos ⟨hob', hne⟩
      have hq : ((nmAt h.ns j).toList != (nmAt g.ns j).toList) = true := by
        simp only [bne_iff_ne, ne_eq]
        exact fun x => hne (text_ext x)
      clear hin hin2 hFr hGr hh hg H hf hf2 hk hob' hne HC HK
      refine po1 hA hB hob e1 e4 e2 e5 e3 e6 hq (fun _ d _ _ _ h => by cases d <;> exact h) ?_
      intro w1 v7 v8 v9 v10 v11 v12 v13 v14 v15 v16 v17 v18 v19 v20 v21 hb1
      have hA1 := hA.below hb1
      have hB1 := hB.below hb1
      have f3 := (hb1.cell (p := ⟨nb, no + j, none⟩) (World.block_lt_of_cell? _ _ e3)).trans e3
      have f6 := (hb1.cell (p := ⟨mb, mo + j, none⟩) (World.block_lt_of_cell? _ _ e6)).trans e6
      have HE : Hid ((h.na = some ⟨nb, no, none⟩ ∧ g.na = some ⟨mb, mo, none⟩) ∧ w1.cell? ⟨nb, no + j, none⟩ = some (.string (nmAt h.ns j)) ∧ w1.cell? ⟨mb, mo + j, none⟩ = some (.string (nmAt g.ns j))) := ⟨⟨e1, e4⟩, f3, f6⟩
      clear hA hB e3 e6 hob hq f3 f6 e1 e4
      go_wp2_with fail
      refine po2 hA1 hB1 HE.out.1.1 HE.out.1.2 e2 e5 HE.out.2.1 HE.out.2.2 (fun _ d _ _ _ h => by cases d <;> exact h) ?_
      intro w2 v23 v24 v25 v26 v27 v28 v29 v30 v31 v32 v33 hb2
      have hB2 := hBp.trans ((hb1.trans (hb2.mono hb1.size)).mono hBp.size)
      clear hA1 hB1 hb1 hb2
      go_wp2_with fail
      go_ret
      exact ⟨by rw [HR.out]; rfl, hB2⟩
  · have hob' : (h.k == 6) = false := by simpa using hob
    have HR : Hid (pord (vord N) (h.k == 6) h.ns g.ns F G j = vord N (F.hdAt j) (F.kidsAt j) (G.hdAt j) (G.kidsAt j)) := if_neg (fun x => by rw [hob'] at x; cases x.1)
    clear hin hin2 hFr hGr hh hg H hf hf2 hk hob
    refine po1n (B := w.heap.size + 1) hA hob' (fun _ d _ _ _ h => by cases d <;> exact h) ?_
    intro w1 v7 v8 v9 v10 v11 v12 v13 v14 v15 v16 v17 v18 v19 v20 v21 hb1
    have hA1 := hA.below hb1
    have hB1 := hB.below hb1
    clear hA hB hob'
    go_wp2_with fail
    refine po3 hA1 hB1 hjl hjl2 (HC.out _ hb1).1 (HC.out _ hb1).2 (fun W' hW => HK.out W' (hb1.trans (hW.mono hb1.size))) (fun _ d _ _ _ h => by cases d <;> exact h) ?_
    intro w2 v34 v35 v36 v37 v38 v39 v40 v41 v42 v43 v44 hb2
    have hB2 := hBp.trans ((hb1.trans (hb2.mono hb1.size)).mono hBp.size)
    clear hA1 hB1 HC HK hb1 hb2
    go_wp2_with fail
    go_ret
    exact ⟨by rw [HR.out]; rfl, hB2⟩
set_option maxRecDepth 100000 in
set_option maxHeartbeats 1000000 in
theorem valueOrder_step (N : Nat) (H : PlcC 62 N) : OrdC 35 (N + 1) := by
  intro h a c F g a2 c2 G w hF hin hl hc hh hin2 hl2 hc2 hg hf hf2
  have hlc := hl
  have hlc2 := hl2
  unfold maxLen at hc hc2
  go_enter Try.func35, Try.ntmps35
  go_wp2_with fail
  obtain ⟨wp, hwp⟩ : ∃ wp, wp = (w.alloc (.cells #[.int .i64 h.k, .int .i64 h.m, .int .i64 h.e, .string h.t, .slice a F.len c, .slice h.na h.ns.length h.nc] 28)).alloc (.cells #[.int .i64 g.k, .int .i64 g.m, .int .i64 g.e, .string g.t, .slice a2 G.len c2, .slice g.na g.ns.length g.nc] 28) := ⟨_, rfl⟩
  have hBp : Below w.heap.size w wp := by subst hwp; exact ((Below.refl _ w).alloc (Nat.le_refl _) _).alloc (by simp) _
  have hA : BxV w.heap.size h (.slice a F.len c) wp := by subst hwp; exact (BxV.new w h _ _).below ((Below.refl _ _).alloc (Nat.le_refl _) _)
  have hB : BxV (w.heap.size + 1) g (.slice a2 G.len c2) wp := by
    subst hwp
    have h9 := BxV.new (w.alloc (.cells #[.int .i64 h.k, .int .i64 h.m, .int .i64 h.e, .string h.t, .slice a F.len c, .slice h.na h.ns.length h.nc] 28)) g (.slice a2 G.len c2) 28
    rw [World.size_alloc] at h9
    exact h9
  rw [← hwp]
  clear hwp
  refine vo1 hA hB (one_dec hf.1) (one_dec hf2.1) (fun _ d _ _ _ h => by cases d <;> exact h) ?_
  intro w1 v8 v9 v10 v11 v12 v13 v14 v15 v16 v17 v18 v19 v20 v21 v22 v23 v24 hb1
  have hX1 : Hid (∀ W, Below w1.heap.size w1 W → BxV w.heap.size h (.slice a F.len c) W ∧ BxV (w.heap.size + 1) g (.slice a2 G.len c2) W) := fun W hW => ⟨hA.below (hb1.trans (hW.mono hb1.size)), hB.below (hb1.trans (hW.mono hb1.size))⟩
  have hB1 := hBp.trans (hb1.mono hBp.size)
  clear hA hB hBp hb1
  by_cases hz : hord h g = 0
  case neg =>
    have HR : Hid (vord (N + 1) h F g G = hord h g) := if_neg hz
    have e : (hord h g != 0) = true := by simpa using hz
    clear hin hin2 hh hg H hf hf2 hX1
    go_wp2_with fail
    go_ret
    exact ⟨by rw [HR.out]; rfl, hB1⟩
  have hk := hord_kind hz
  by_cases hcase : G.len < F.len
  · have hcase' : (G.len : Int) < (F.len : Int) := by omega
    have HR : Hid (vord (N + 1) h F g G = ford (vord N) (h.k == 6) h.ns g.ns F G G.len 0) := by unfold Hid; rw [← (by omega : min F.len G.len = G.len)]; exact if_pos hz
    have hMF : G.len ≤ F.len := by omega
    have hMG : G.len ≤ G.len := by omega
    have HH : Hid (∀ (j : Nat) (W : World), Below w1.heap.size w1 W → j < G.len → Calls Try.prog 62 #[valV h a F.len c, valV g a2 G.len c2, .int .i64 j] W fun r w' => r = .returned (.int .i64 (pord (vord N) (h.k == 6) h.ns g.ns F G j)) ∧ Below W.heap.size W w') := fun j W hW hj => by
      have hb := hB1.trans (hW.mono hB1.size)
      exact H h a c F g a2 c2 G j W (by omega) (hin.grow hb) hl (by unfold maxLen; omega) (hh.grow hb) (hin2.grow hb) hl2 (by unfold maxLen; omega) (hg.grow hb) hf hf2 hk (by omega) (by omega)
    rw [hz]
    clear hin hin2 hh hg H hf hf2 hk hz
    obtain ⟨⟨x0, x1, x2, x3, x4, x5⟩, y0, y1, y2, y3, y4, y5⟩ := hX1.out _ (Below.refl _ _)
    go_wp2_with fail
    clear x0 x1 x2 x3 x4 x5 y0 y1 y2 y3 y4 y5
    go_loopw [35] (fun i wr => ∃ j : Nat, i = .int .i64 j ∧ j ≤ G.len ∧ ford (vord N) (h.k == 6) h.ns g.ns F G (G.len - j) j = ford (vord N) (h.k == 6) h.ns g.ns F G G.len 0 ∧ Below w1.heap.size w1 wr) (fun i _ => G.len - (intOf i).toNat)
    case atStart => exact ⟨0, rfl, Nat.zero_le _, rfl, Below.refl _ _⟩
    case round =>
      obtain ⟨j, rfl, hj, hfo, hb⟩ := hrel
      have HF : Hid (ford (vord N) (h.k == 6) h.ns g.ns F G (G.len - j) j = ford (vord N) (h.k == 6) h.ns g.ns F G G.len 0) := hfo
      clear hfo
      obtain ⟨⟨x0, x1, x2, x3, x4, x5⟩, y0, y1, y2, y3, y4, y5⟩ := hX1.out _ hb
      by_cases hjM : j < G.len
      · have hjl : (j : Int) < (G.len : Int) := by omega
        have hcall := HH.out j wr hb hjM
        have HN := @ford_next (vord N) (h.k == 6) h.ns g.ns F G G.len j hjM
        have HN2 := @ford_here (vord N) (h.k == 6) h.ns g.ns F G G.len j hjM
        generalize pord (vord N) (h.k == 6) h.ns g.ns F G j = P at hcall HN HN2
        have HN' : Hid (P = 0 → ford (vord N) (h.k == 6) h.ns g.ns F G (G.len - (j + 1)) (j + 1) = ford (vord N) (h.k == 6) h.ns g.ns F G (G.len - j) j) := HN
        have HN2' : Hid (¬ P = 0 → P = ford (vord N) (h.k == 6) h.ns g.ns F G (G.len - j) j) := HN2
        have HCl := hideIt hcall
        clear HN HN2 hcall
        go_wp2_with fail
        refine HCl.out.mono ?_
        rintro r w2 ⟨rfl, hb2⟩
        have hB2 := hb.trans (hb2.mono hb.size)
        clear x0 x1 x2 x3 x4 x5 y0 y1 y2 y3 y4 y5 hb2 HCl
        by_cases hp : P = 0
        · have e : (P != 0) = false := by rw [hp]; rfl
          have HP : Hid (P = 0) := hp
          clear hp
          go_wp2_with fail
          go_round
          case rel => exact ⟨j + 1, by go_num, by omega, by rw [HN'.out HP.out]; exact HF.out, hB2⟩
          case measure => simp [intOf]; omega
        · have e : (P != 0) = true := by simpa using hp
          go_wp2_with fail
          go_ret
          exact ⟨by rw [HR.out, ← HF.out, ← HN2'.out hp]; rfl, hB1.trans (hB2.mono hB1.size)⟩
      · have ej : j = G.len := by omega
        have HL : Hid (Dm.sgn ((F.len : Int) - (G.len : Int)) = ford (vord N) (h.k == 6) h.ns g.ns F G (G.len - j) j) := by unfold Hid; rw [show G.len - j = 0 by omega]; rfl
        have hnl : ¬ (j : Int) < (G.len : Int) := by omega
        clear ej
        skip
        go_wp2_with fail
        refine (compare_any _ _ _).mono ?_
        rintro r w2 ⟨rfl, hw2⟩
        subst w2
        go_wp2_with fail
        go_ret
        exact ⟨by rw [HR.out, ← HF.out, ← HL.out]; rfl, hB1.trans (hb.mono hB1.size)⟩
  · have hcase' : ¬ (G.len : Int) < (F.len : Int) := by omega
    have HR : Hid (vord (N + 1) h F g G = ford (vord N) (h.k == 6) h.ns g.ns F G F.len 0) := by unfold Hid; rw [← (by omega : min F.len G.len = F.len)]; exact if_pos hz
    have hMF : F.len ≤ F.len := by omega
    have hMG : F.len ≤ G.len := by omega
    have HH : Hid (∀ (j : Nat) (W : World), Below w1.heap.size w1 W → j < F.len → Calls Try.prog 62 #[valV h a F.len c, valV g a2 G.len c2, .int .i64 j] W fun r w' => r = .returned (.int .i64 (pord (vord N) (h.k == 6) h.ns g.ns F G j)) ∧ Below W.heap.size W w') := fun j W hW hj => by
      have hb := hB1.trans (hW.mono hB1.size)
      exact H h a c F g a2 c2 G j W (by omega) (hin.grow hb) hl (by unfold maxLen; omega) (hh.grow hb) (hin2.grow hb) hl2 (by unfold maxLen; omega) (hg.grow hb) hf hf2 hk (by omega) (by omega)
    rw [hz]
    clear hin hin2 hh hg H hf hf2 hk hz
    obtain ⟨⟨x0, x1, x2, x3, x4, x5⟩, y0, y1, y2, y3, y4, y5⟩ := hX1.out _ (Below.refl _ _)
    go_wp2_with fail
    clear x0 x1 x2 x3 x4 x5 y0 y1 y2 y3 y4 y5
    go_loopw [35] (fun i wr => ∃ j : Nat, i = .int .i64 j ∧ j ≤ F.len ∧ ford (vord N) (h.k == 6) h.ns g.ns F G (F.len - j) j = ford (vord N) (h.k == 6) h.ns g.ns F G F.len 0 ∧ Below w1.heap.size w1 wr) (fun i _ => F.len - (intOf i).toNat)
    case atStart => exact ⟨0, rfl, Nat.zero_le _, rfl, Below.refl _ _⟩
    case round =>
      obtain ⟨j, rfl, hj, hfo, hb⟩ := hrel
      have HF : Hid (ford (vord N) (h.k == 6) h.ns g.ns F G (F.len - j) j = ford (vord N) (h.k == 6) h.ns g.ns F G F.len 0) := hfo
      clear hfo
      obtain ⟨⟨x0, x1, x2, x3, x4, x5⟩, y0, y1, y2, y3, y4, y5⟩ := hX1.out _ hb
      by_cases hjM : j < F.len
      · have hjl : (j : Int) < (F.len : Int) := by omega
        have hcall := HH.out j wr hb hjM
        have HN := @ford_next (vord N) (h.k == 6) h.ns g.ns F G F.len j hjM
        have HN2 := @ford_here (vord N) (h.k == 6) h.ns g.ns F G F.len j hjM
        generalize pord (vord N) (h.k == 6) h.ns g.ns F G j = P at hcall HN HN2
        have HN' : Hid (P = 0 → ford (vord N) (h.k == 6) h.ns g.ns F G (F.len - (j + 1)) (j + 1) = ford (vord N) (h.k == 6) h.ns g.ns F G (F.len - j) j) := HN
        have HN2' : Hid (¬ P = 0 → P = ford (vord N) (h.k == 6) h.ns g.ns F G (F.len - j) j) := HN2
        have HCl := hideIt hcall
        clear HN HN2 hcall
        go_wp2_with fail
        refine HCl.out.mono ?_
        rintro r w2 ⟨rfl, hb2⟩
        have hB2 := hb.trans (hb2.mono hb.size)
        clear x0 x1 x2 x3 x4 x5 y0 y1 y2 y3 y4 y5 hb2 HCl
        by_cases hp : P = 0
        · have e : (P != 0) = false := by rw [hp]; rfl
          have HP : Hid (P = 0) := hp
          clear hp
          go_wp2_with fail
          go_round
          case rel => exact ⟨j + 1, by go_num, by omega, by rw [HN'.out HP.out]; exact HF.out, hB2⟩
          case measure => simp [intOf]; omega
        · have e : (P != 0) = true := by simpa using hp
          go_wp2_with fail
          go_ret
          exact ⟨by rw [HR.out, ← HF.out, ← HN2'.out hp]; rfl, hB1.trans (hB2.mono hB1.size)⟩
      · have ej : j = F.len := by omega
        have HL : Hid (Dm.sgn ((F.len : Int) - (G.len : Int)) = ford (vord N) (h.k == 6) h.ns g.ns F G (F.len - j) j) := by unfold Hid; rw [show F.len - j = 0 by omega]; rfl
        have hnl : ¬ (j : Int) < (F.len : Int) := by omega
        clear ej
        skip
        go_wp2_with fail
        refine (compare_any _ _ _).mono ?_
        rintro r w2 ⟨rfl, hw2⟩
        subst w2
        go_wp2_with fail
        go_ret
        exact ⟨by rw [HR.out, ← HF.out, ← HL.out]; rfl, hB1.trans (hb.mono hB1.size)⟩
theorem valueOrder_all (N : Nat) : OrdC 35 N := by
  induction N with
  | zero => intro h a c F g a2 c2 G w hF; omega
  | succ N ih => exact valueOrder_step N (placeOrder_step N ih)
open Classical in
/-- what ValueCmp answers -/
noncomputable def vcmp (h : Hd) (F : Vo) (g : Hd) (G : Vo) : Int := if ValOk h F ∧ ValOk g G then vord 200 h F g G else 0
theorem vcmp_copy {h g : Hd} {m n : Nat} {F F1 G G1 : Vo} (x : F1.alike F) (y : G1.alike G) : vcmp (h.to m) F1 (g.to n) G1 = vcmp h F g G := by
  unfold vcmp
  rw [propext (ok_copy x), propext (ok_copy y), vord_alike 200 (h := h.to m) (h' := h) (g := g.to n) (g' := g) ⟨⟨rfl, rfl, rfl, rfl⟩, rfl⟩ x ⟨⟨rfl, rfl, rfl, rfl⟩, rfl⟩ y]
theorem vcmp_ok {h g : Hd} {F G : Vo} (x : ValOk h F) (y : ValOk g G) : vcmp h F g G = vord 200 h F g G := if_pos ⟨x, y⟩
theorem vcmp_no {h g : Hd} {F G : Vo} (x : ¬ ValOk h F ∨ ¬ ValOk g G) : vcmp h F g G = 0 := if_neg (fun z => x.elim (fun p => p z.1) (fun p => p z.2))
end Go.Proofs.Ytalncebnahlmdaa
/- The order of values: turned round it is turned round, and it can be put together. -/
namespace Go.Proofs.Ytalncebnahlmdaa
open Go.RowKit
theorem tord_swap (a b : ByteArray) : tord b a = -tord a b := by
  rcases tord_cases a b with ⟨p1, p2, p3, p4⟩ | ⟨p1, p2, p3, p4⟩ | ⟨p1, p2, p3, p4⟩
  · rcases tord_cases b a with ⟨q1, q2, _, _⟩ | ⟨q1, _, _, _⟩ | ⟨q1, _, q3, q4⟩
    · rw [q2] at p3; cases p3
    · omega
    · exact absurd q4.symm p4
  · rcases tord_cases b a with ⟨q1, _, _, _⟩ | ⟨q1, q2, _, _⟩ | ⟨q1, _, q3, q4⟩
    · omega
    · rw [q2] at p3; cases p3
    · exact absurd q4.symm p4
  · subst p4; rw [p1]; rfl
theorem sgn_swap (v : Int) : Dm.sgn (-v) = -Dm.sgn v := by
  unfold Dm.sgn
  split <;> split <;> (try split) <;> (try split) <;> omega
theorem cmp_swap (m x n y : Int) : Dm.cmp n y m x = -Dm.cmp m x n y := by
  unfold Dm.cmp
  by_cases h : Dm.ok m x = true ∧ Dm.ok n y = true
  · rw [if_pos h, if_pos ⟨h.2, h.1⟩, ← sgn_swap]; congr 1; omega
  · rw [if_neg h, if_neg (fun k => h ⟨k.2, k.1⟩)]; rfl
theorem hord_swap (h g : Hd) : hord g h = -hord h g := by
  unfold hord
  by_cases hk : h.k = g.k
  · rw [if_pos hk, if_pos hk.symm]
    by_cases hm : h.m = g.m ∧ h.e = g.e
    · rw [if_pos hm, if_pos ⟨hm.1.symm, hm.2.symm⟩, tord_swap]
    · rw [if_neg hm, if_neg (fun k => hm ⟨k.1.symm, k.2.symm⟩), cmp_swap]
  · rw [if_neg hk, if_neg (fun k => hk k.symm), ← sgn_swap]; congr 1; omega
theorem pord_swap {f : Hd → Vo → Hd → Vo → Int} (hf : ∀ h F g G, f g G h F = -f h F g G) (ob : Bool) (ns ms : List ByteArray) (F G : Vo) (i : Nat) : pord f ob ms ns G F i = -pord f ob ns ms F G i := by
  unfold pord
  by_cases h : ob = true ∧ nmAt ns i ≠ nmAt ms i
  · rw [if_pos h, if_pos ⟨h.1, fun e => h.2 e.symm⟩, tord_swap]
  · rw [if_neg h, if_neg (fun k => h ⟨k.1, fun e => k.2 e.symm⟩), hf]
theorem ford_swap {f : Hd → Vo → Hd → Vo → Int} (hf : ∀ h F g G, f g G h F = -f h F g G) (ob : Bool) (ns ms : List ByteArray) (F G : Vo) : ∀ n i, ford f ob ms ns G F n i = -ford f ob ns ms F G n i := by
  intro n
  induction n with
  | zero => intro i; show Dm.sgn _ = -Dm.sgn _; rw [← sgn_swap]; congr 1; omega
  | succ n ih =>
    intro i
    show (if pord f ob ms ns G F i = 0 then ford f ob ms ns G F n (i + 1) else pord f ob ms ns G F i) = -(if pord f ob ns ms F G i = 0 then ford f ob ns ms F G n (i + 1) else pord f ob ns ms F G i)
    rw [pord_swap hf ob ns ms F G i]
    by_cases h : pord f ob ns ms F G i = 0
    · rw [if_pos h, if_pos (by omega), ih]
    · rw [if_neg h, if_neg (by omega)]
theorem vord_swap : ∀ (N : Nat) (h : Hd) (F : Vo) (g : Hd) (G : Vo), vord N g G h F = -vord N h F g G := by
  intro N
  induction N with
  | zero => intro h F g G; rfl
  | succ N ih =>
    intro h F g G
    show (if hord g h = 0 then ford (vord N) (g.k == 6) g.ns h.ns G F (min G.len F.len) 0 else hord g h) = -(if hord h g = 0 then ford (vord N) (h.k == 6) h.ns g.ns F G (min F.len G.len) 0 else hord h g)
    rw [hord_swap h g]
    by_cases e : hord h g = 0
    · rw [if_pos e, if_pos (by omega), hord_kind e, Nat.min_comm, ford_swap ih]
    · rw [if_neg e, if_neg (by omega)]
/-- three answers that can be put together -/
def Tri (ab bc ac : Int) : Prop := ab ≤ 0 → bc ≤ 0 → ac ≤ 0 ∧ (ab < 0 ∨ bc < 0 → ac < 0)
/-- one behind another one: where the first says that they are the same, the second says -/
theorem tri_lex {a1 a2 a3 b1 b2 b3 l1 l2 l3 : Int} (hA : Tri a1 a2 a3) (hA' : Tri (-a2) (-a1) (-a3)) (hB : a1 = 0 → a2 = 0 → Tri b1 b2 b3) (e1 : l1 = if a1 = 0 then b1 else a1) (e2 : l2 = if a2 = 0 then b2 else a2) (e3 : l3 = if a3 = 0 then b3 else a3) : Tri l1 l2 l3 := by
  intro h1 h2
  have k1 : a1 ≤ 0 := by rw [e1] at h1; split at h1 <;> omega
  have k2 : a2 ≤ 0 := by rw [e2] at h2; split at h2 <;> omega
  obtain ⟨k3, k4⟩ := hA k1 k2
  by_cases hs : a1 < 0 ∨ a2 < 0
  · have k5 := k4 hs
    rw [e3, if_neg (by omega)]
    exact ⟨k3, fun _ => k5⟩
  · have z1 : a1 = 0 := by omega
    have z2 : a2 = 0 := by omega
    obtain ⟨k6, _⟩ := hA' (by omega) (by omega)
    have z3 : a3 = 0 := by omega
    rw [e1, if_pos z1] at h1
    rw [e2, if_pos z2] at h2
    rw [e1, e2, e3, if_pos z1, if_pos z2, if_pos z3]
    exact hB z1 z2 h1 h2
theorem bless_tr : ∀ {a b c : List UInt8}, Op.bytesLess a b = true → Op.bytesLess b c = true → Op.bytesLess a c = true := by
  intro a
  induction a with
  | nil => intro b c h1 h2; cases b with
    | nil => exact h2
    | cons y t => cases c with
      | nil => simp [Op.bytesLess] at h2
      | cons z u => simp [Op.bytesLess]
  | cons x s ih =>
    intro b c h1 h2
    cases b with
    | nil => simp [Op.bytesLess] at h1
    | cons y t =>
      cases c with
      | nil => simp [Op.bytesLess] at h2
      | cons z u =>
        simp only [Op.bytesLess] at h1 h2 ⊢
        rw [Bool.or_eq_true, decide_eq_true_iff, Bool.and_eq_true, beq_iff_eq] at h1 h2 ⊢
        rcases h1 with h1 | ⟨rfl, h1⟩
        · rcases h2 with h2 | ⟨rfl, h2⟩
          · exact .inl (UInt8.lt_trans h1 h2)
          · exact .inl h1
        · rcases h2 with h2 | ⟨rfl, h2⟩
          · exact .inl h2
          · exact .inr ⟨rfl, ih h1 h2⟩
theorem bless_trans {a b c : ByteArray} (h1 : tord a b ≤ 0) (h2 : tord b c ≤ 0) (h : tord a b < 0 ∨ tord b c < 0) (ht : Op.bytesLess a.toList b.toList = true → Op.bytesLess b.toList c.toList = true → Op.bytesLess a.toList c.toList = true) : tord a c < 0 := by
  rcases tord_cases a b with ⟨p1, p2, _, _⟩ | ⟨p1, _, _, _⟩ | ⟨p1, _, _, p4⟩
  · rcases tord_cases b c with ⟨q1, q2, _, _⟩ | ⟨q1, _, _, _⟩ | ⟨q1, _, _, q4⟩
    · rcases tord_cases a c with ⟨r1, _, _, _⟩ | ⟨_, r2, _, _⟩ | ⟨_, r2, _, _⟩
      · omega
      · rw [ht p2 q2] at r2; cases r2
      · rw [ht p2 q2] at r2; cases r2
    · omega
    · subst q4; omega
  · omega
  · subst p4; omega
theorem tri_tord (a b c : ByteArray) : Tri (tord a b) (tord b c) (tord a c) := by
  intro h1 h2
  have hs : tord a b < 0 ∨ tord b c < 0 → tord a c < 0 := fun h => bless_trans h1 h2 h bless_tr
  refine ⟨?_, hs⟩
  by_cases h : tord a b < 0 ∨ tord b c < 0
  · have := hs h; omega
  · have z1 : a = b := tord_zero.1 (by omega)
    have z2 : b = c := tord_zero.1 (by omega)
    have z3 : tord a c = 0 := tord_zero.2 (z1.trans z2)
    omega
theorem tri_cmp {m x n y c z : Int} (hm : Dm.ok m x = true) (hn : Dm.ok n y = true) (hc : Dm.ok c z = true) : Tri (Dm.cmp m x n y) (Dm.cmp n y c z) (Dm.cmp m x c z) := by
  intro h1 h2
  have h3 := Dm.cmp_trans hm hn hc h1 h2
  refine ⟨h3, fun h => ?_⟩
  by_cases e : Dm.cmp m x c z = 0
  · obtain ⟨rfl, rfl⟩ := (Dm.cmp_zero hm hc).1 e
    have := cmp_swap m x n y
    omega
  · omega
theorem tri_sgn (x y z : Int) : Tri (Dm.sgn (x - y)) (Dm.sgn (y - z)) (Dm.sgn (x - z)) := by
  intro h1 h2
  rcases Dm.sgn_cases (x - y) with ⟨p1, p2⟩ | ⟨p1, p2⟩ | ⟨p1, p2⟩ <;> rcases Dm.sgn_cases (y - z) with ⟨q1, q2⟩ | ⟨q1, q2⟩ | ⟨q1, q2⟩ <;> rcases Dm.sgn_cases (x - z) with ⟨r1, r2⟩ | ⟨r1, r2⟩ | ⟨r1, r2⟩ <;> omega
theorem tri_hord {h g k : Hd} (hh : Dm.ok h.m h.e = true) (hg : Dm.ok g.m g.e = true) (hk : Dm.ok k.m k.e = true) : Tri (hord h g) (hord g k) (hord h k) := by
  have key : ∀ {x y : Hd}, Dm.ok x.m x.e = true → Dm.ok y.m y.e = true → hord x y = if Dm.sgn (x.k - y.k) = 0 then (if Dm.cmp x.m x.e y.m y.e = 0 then tord x.t y.t else Dm.cmp x.m x.e y.m y.e) else Dm.sgn (x.k - y.k) := by
    intro x y hx hy
    by_cases e : x.k = y.k
    · have e0 : Dm.sgn (x.k - y.k) = 0 := (Dm.sgn_iff _).2.2.2 (by omega)
      rw [hord_dec e hx hy, if_pos e0]
    · rw [if_neg (fun z => e (by have := (Dm.sgn_iff _).2.2.1 z; omega))]
      unfold hord
      rw [if_neg e]
  have neg : ∀ x y z : Int, Tri (-Dm.sgn (y - z)) (-Dm.sgn (x - y)) (-Dm.sgn (x - z)) := fun x y z => by
    have := tri_sgn z y x
    rw [← sgn_swap, ← sgn_swap, ← sgn_swap, show -(y - z) = z - y by omega, show -(x - y) = y - x by omega, show -(x - z) = z - x by omega]
    exact this
  refine tri_lex (tri_sgn h.k g.k k.k) (neg _ _ _) (fun _ _ => ?_) (key hh hg) (key hg hk) (key hh hk)
  refine tri_lex (tri_cmp hh hg hk) ?_ (fun _ _ => tri_tord _ _ _) rfl rfl rfl
  rw [← cmp_swap, ← cmp_swap, ← cmp_swap]
  exact tri_cmp hk hg hh
theorem tri_pord {f : Hd → Vo → Hd → Vo → Int} (ob : Bool) (ns ms ls : List ByteArray) (F G K : Vo) (i : Nat)
    (hf : Tri (f (F.hdAt i) (F.kidsAt i) (G.hdAt i) (G.kidsAt i)) (f (G.hdAt i) (G.kidsAt i) (K.hdAt i) (K.kidsAt i)) (f (F.hdAt i) (F.kidsAt i) (K.hdAt i) (K.kidsAt i))) :
    Tri (pord f ob ns ms F G i) (pord f ob ms ls G K i) (pord f ob ns ls F K i) := by
  have key : ∀ (ns ms : List ByteArray) (F G : Vo), pord f ob ns ms F G i = if (if ob = true then tord (nmAt ns i) (nmAt ms i) else 0) = 0 then f (F.hdAt i) (F.kidsAt i) (G.hdAt i) (G.kidsAt i) else (if ob = true then tord (nmAt ns i) (nmAt ms i) else 0) := by
    intro ns ms F G
    unfold pord
    by_cases ho : ob = true
    · by_cases hn : nmAt ns i = nmAt ms i
      · rw [if_neg (fun k => k.2 hn), if_pos (by rw [if_pos ho]; exact tord_zero.2 hn)]
      · rw [if_pos ⟨ho, hn⟩, if_neg (by rw [if_pos ho]; exact fun k => hn (tord_zero.1 k)), if_pos ho]
    · rw [if_neg (fun k => ho k.1), if_pos (by rw [if_neg ho])]
  refine tri_lex ?_ ?_ (fun _ _ => hf) (key ns ms F G) (key ms ls G K) (key ns ls F K)
  · by_cases ho : ob = true
    · simp only [if_pos ho]; exact tri_tord _ _ _
    · simp only [if_neg ho]; exact fun _ _ => ⟨Int.le_refl _, fun h => by omega⟩
  · by_cases ho : ob = true
    · simp only [if_pos ho, ← tord_swap]; exact tri_tord _ _ _
    · simp only [if_neg ho]; exact fun _ _ => ⟨by omega, fun h => by omega⟩
theorem tri_ford {f : Hd → Vo → Hd → Vo → Int} (ob : Bool) (ns ms ls : List ByteArray) (F G K : Vo)
    (hp : ∀ i, i < F.len → i < G.len → i < K.len → Tri (pord f ob ns ms F G i) (pord f ob ms ls G K i) (pord f ob ns ls F K i) ∧ Tri (-pord f ob ms ls G K i) (-pord f ob ns ms F G i) (-pord f ob ns ls F K i)) :
    ∀ d i, i + d = min (min F.len G.len) K.len → Tri (ford f ob ns ms F G (min F.len G.len - i) i) (ford f ob ms ls G K (min G.len K.len - i) i) (ford f ob ns ls F K (min F.len K.len - i) i) := by
  intro d
  induction d with
  | zero =>
    intro i hi h1 h2
    by_cases hx : F.len = i
    · rw [show min F.len K.len - i = 0 by omega]
      rw [show min F.len G.len - i = 0 by omega] at h1 ⊢
      have e1 : ford f ob ns ms F G 0 i = Dm.sgn ((F.len : Int) - (G.len : Int)) := rfl
      have e3 : ford f ob ns ls F K 0 i = Dm.sgn ((F.len : Int) - (K.len : Int)) := rfl
      rw [e1] at h1 ⊢
      rw [e3]
      rcases Dm.sgn_cases ((F.len : Int) - (G.len : Int)) with ⟨p1, p2⟩ | ⟨p1, p2⟩ | ⟨p1, p2⟩
      · by_cases hz : K.len = i
        · rw [show min G.len K.len - i = 0 by omega] at h2
          have e2 : ford f ob ms ls G K 0 i = Dm.sgn ((G.len : Int) - (K.len : Int)) := rfl
          rw [e2, Dm.sgn_pos (by omega)] at h2
          omega
        · rw [Dm.sgn_neg (show (F.len : Int) - (K.len : Int) < 0 by omega)]
          exact ⟨by omega, fun _ => by omega⟩
      · rw [show min G.len K.len - i = 0 by omega] at h2 ⊢
        have e2 : ford f ob ms ls G K 0 i = Dm.sgn ((G.len : Int) - (K.len : Int)) := rfl
        rw [e2] at h2 ⊢
        rw [show (F.len : Int) - (K.len : Int) = (G.len : Int) - (K.len : Int) by omega]
        exact ⟨h2, fun h => by omega⟩
      · omega
    · by_cases hy : G.len = i
      · rw [show min F.len G.len - i = 0 by omega] at h1
        have e1 : ford f ob ns ms F G 0 i = Dm.sgn ((F.len : Int) - (G.len : Int)) := rfl
        rw [e1, Dm.sgn_pos (by omega)] at h1
        omega
      · rw [show min G.len K.len - i = 0 by omega] at h2
        have e2 : ford f ob ms ls G K 0 i = Dm.sgn ((G.len : Int) - (K.len : Int)) := rfl
        rw [e2, Dm.sgn_pos (by omega)] at h2
        omega
  | succ d ih =>
    intro i hi
    obtain ⟨q1, q2⟩ := hp i (by omega) (by omega) (by omega)
    have e : ∀ (ns ms : List ByteArray) (F G : Vo) (n : Nat), ford f ob ns ms F G (n + 1) i = if pord f ob ns ms F G i = 0 then ford f ob ns ms F G n (i + 1) else pord f ob ns ms F G i := fun _ _ _ _ _ => rfl
    rw [show min F.len G.len - i = (min F.len G.len - (i + 1)) + 1 by omega, show min G.len K.len - i = (min G.len K.len - (i + 1)) + 1 by omega, show min F.len K.len - i = (min F.len K.len - (i + 1)) + 1 by omega]
    exact tri_lex q1 q2 (fun _ _ => ih (i + 1) (by omega)) (e ..) (e ..) (e ..)
theorem tri_vord : ∀ (N : Nat) {h g k : Hd} {F G K : Vo}, Fit h F → Fit g G → Fit k K → Tri (vord N h F g G) (vord N g G k K) (vord N h F k K) := by
  intro N
  induction N with
  | zero => intro h g k F G K _ _ _; exact fun _ _ => ⟨Int.le_refl _, fun h => by rcases h with h | h <;> exact absurd (show (0 : Int) < 0 from h) (by decide)⟩
  | succ N ih =>
    intro h g k F G K hF hG hK
    have t := tri_hord (one_dec hF.1) (one_dec hG.1) (one_dec hK.1)
    have t' := tri_hord (one_dec hK.1) (one_dec hG.1) (one_dec hF.1)
    rw [hord_swap g k, hord_swap h g, hord_swap h k] at t'
    have e : ∀ (h g : Hd) (F G : Vo), vord (N + 1) h F g G = if hord h g = 0 then ford (vord N) (h.k == 6) h.ns g.ns F G (min F.len G.len) 0 else hord h g := fun _ _ _ _ => rfl
    refine tri_lex t t' (fun z1 z2 => ?_) (e ..) (e ..) (e ..)
    rw [← hord_kind z1]
    have hp : ∀ i, i < F.len → i < G.len → i < K.len → Tri (pord (vord N) (h.k == 6) h.ns g.ns F G i) (pord (vord N) (h.k == 6) g.ns k.ns G K i) (pord (vord N) (h.k == 6) h.ns k.ns F K i) ∧ Tri (-pord (vord N) (h.k == 6) g.ns k.ns G K i) (-pord (vord N) (h.k == 6) h.ns g.ns F G i) (-pord (vord N) (h.k == 6) h.ns k.ns F K i) := by
      intro i hi1 hi2 hi3
      refine ⟨tri_pord _ _ _ _ _ _ _ _ (ih (fit_at hF hi1) (fit_at hG hi2) (fit_at hK hi3)), ?_⟩
      rw [← pord_swap (vord_swap N), ← pord_swap (vord_swap N), ← pord_swap (vord_swap N)]
      exact tri_pord _ _ _ _ _ _ _ _ (ih (fit_at hK hi3) (fit_at hG hi2) (fit_at hF hi1))
    have := tri_ford (f := vord N) (h.k == 6) h.ns g.ns k.ns F G K hp (min (min F.len G.len) K.len) 0 (by omega)
    simpa using this
end Go.Proofs.Ytalncebnahlmdaa
/- The order of values as the law FnValueCmp asks for it. -/
namespace Go.Proofs.Ytalncebnahlmdaa
open Go.RowKit
theorem vcmp_swap (h g : Hd) (F G : Vo) : vcmp g G h F = -vcmp h F g G := by
  by_cases k : ValOk h F ∧ ValOk g G
  · rw [vcmp_ok k.1 k.2, vcmp_ok k.2 k.1, vord_swap]
  · rw [vcmp_no (h := h) (F := F) (by rcases Classical.em (ValOk h F) with a | a
                                      · exact .inr (fun b => k ⟨a, b⟩)
                                      · exact .inl a), vcmp_no (h := g) (F := G) (by rcases Classical.em (ValOk g G) with a | a
                                                                                     · exact .inr (fun b => k ⟨b, a⟩)
                                                                                     · exact .inl a)]; rfl
theorem tord_bd (a b : ByteArray) : -1 ≤ tord a b ∧ tord a b ≤ 1 := by
  rcases tord_cases a b with ⟨p, _⟩ | ⟨p, _⟩ | ⟨p, _⟩ <;> omega
theorem hord_bd (h g : Hd) : -1 ≤ hord h g ∧ hord h g ≤ 1 := by
  unfold hord
  split
  · split
    · exact tord_bd _ _
    · exact Dm.cmp_bd _ _ _ _
  · exact Dm.sgn_bd _
theorem ford_bd {f : Hd → Vo → Hd → Vo → Int} (hf : ∀ h F g G, -1 ≤ f h F g G ∧ f h F g G ≤ 1) (ob : Bool) (ns ms : List ByteArray) (F G : Vo) : ∀ n i, -1 ≤ ford f ob ns ms F G n i ∧ ford f ob ns ms F G n i ≤ 1 := by
  intro n
  induction n with
  | zero => intro i; exact Dm.sgn_bd _
  | succ n ih =>
    intro i
    show -1 ≤ (if pord f ob ns ms F G i = 0 then ford f ob ns ms F G n (i + 1) else pord f ob ns ms F G i) ∧ (if pord f ob ns ms F G i = 0 then ford f ob ns ms F G n (i + 1) else pord f ob ns ms F G i) ≤ 1
    split
    · exact ih _
    · unfold pord
      split
      · exact tord_bd _ _
      · exact hf _ _ _ _
theorem vord_bd : ∀ (N : Nat) (h : Hd) (F : Vo) (g : Hd) (G : Vo), -1 ≤ vord N h F g G ∧ vord N h F g G ≤ 1 := by
  intro N
  induction N with
  | zero => intro h F g G; exact ⟨by show (-1 : Int) ≤ 0; omega, by show (0 : Int) ≤ 1; omega⟩
  | succ N ih =>
    intro h F g G
    show -1 ≤ (if hord h g = 0 then ford (vord N) (h.k == 6) h.ns g.ns F G (min F.len G.len) 0 else hord h g) ∧ (if hord h g = 0 then ford (vord N) (h.k == 6) h.ns g.ns F G (min F.len G.len) 0 else hord h g) ≤ 1
    split
    · exact ford_bd ih _ _ _ _ _ _ _
    · exact hord_bd _ _
theorem vcmp_bd (h g : Hd) (F G : Vo) : -1 ≤ vcmp h F g G ∧ vcmp h F g G ≤ 1 := by
  unfold vcmp
  split
  · exact vord_bd _ _ _ _ _
  · omega
theorem ok_fit {h : Hd} {F : Vo} (x : ValOk h F) : Fit h F := ⟨x.2.2.1, x.2.2.2⟩
theorem vcmp_trans {h g k : Hd} {F G K : Vo} (hF : ValOk h F) (hG : ValOk g G) (hK : ValOk k K) (h1 : vcmp h F g G ≤ 0) (h2 : vcmp g G k K ≤ 0) : vcmp h F k K ≤ 0 := by
  rw [vcmp_ok hF hG] at h1
  rw [vcmp_ok hG hK] at h2
  rw [vcmp_ok hF hK]
  exact (tri_vord 200 (ok_fit hF) (ok_fit hG) (ok_fit hK) h1 h2).1
end Go.Proofs.Ytalncebnahlmdaa
/- Contract: DecCmp of the spec. -/
namespace Go.Proofs.Ytalncebnahlmdaa
open Go.RowKit
end Go.Proofs.Ytalncebnahlmdaa
/- How two values stand to each other, by the specification: texts, and the regions that draw. -/
namespace Go.Proofs.Ytalncebnahlmdaa
open Go.RowKit
set_option maxHeartbeats 1000000 in
theorem l8Texts_any (a b : ByteArray) (w : World) :
    Calls Try.prog 65 #[.string a, .string b] w fun e w' => e = .returned (.int .i64 (tord a b)) ∧ w' = w := by
  rcases tord_cases a b with ⟨h1, h2, h3, h4⟩ | ⟨h1, h2, h3, h4⟩ | ⟨h1, h2, h3, h4⟩
  · have e : (a.toList == b.toList) = false := by simpa using fun x => h4 (text_ext x)
    rw [h1]
    clear h1 h4
    go_enter Try.func65, Try.ntmps65
    go_wp2_with fail
    go_ret
    exact ⟨rfl, rfl⟩
  · have e : (a.toList == b.toList) = false := by simpa using fun x => h4 (text_ext x)
    rw [h1]
    clear h1 h4
    go_enter Try.func65, Try.ntmps65
    go_wp2_with fail
    go_ret
    exact ⟨rfl, rfl⟩
  · subst h4
    have e : (a.toList == a.toList) = true := by simp
    rw [h1]
    clear h1
    go_enter Try.func65, Try.ntmps65
    go_wp2_with fail
    go_ret
    exact ⟨rfl, rfl⟩
set_option maxRecDepth 100000 in
set_option maxHeartbeats 1000000 in
theorem lc10n {Q : Exit → Act → World → Prop} {t0 t1 t4 t6 t7 t8 t9 t10 t11 t12 t13 t14 t15 t16 t17 t18 t19 t20 t21 t22 t23 t24 t25 t26 t27 t28 t29 t30 t31 t32 t33 t34 t35 t36 t37 t38 t39 t40 t41 t42 t43 t44 t45 t46 t47 t48 t49 t50 t51 t52 t53 t54 t55 t56 t57 t58 t59 t60 t61 t62 t63 t64 t65 t66 t67 t68 t69 t70 t71 t72 t73 t74 t75 t76 t77 t78 t79 t80 t81 t82 t83 t84 t85 t86 t87 t88 t89 t90 t91 t92 t93 t94 t95 t96 t97 t98 t99 t100 : Value} {W : World} {A B n c j : Nat} {h : Hd} {a : Option Addr}
    (hA : BxV A h (.slice a n c) W) (hk : (h.k == 6) = false)
    (hp : ∀ p d v a w, Q (.panic p) (Act.put a d v) w → Q (.panic p) a w) (h_ : ∀ ws v52 v53 v54 v55 v56 v57 v58 v59 v60 v61 v62 v63 v64 v65 v66, Below W.heap.size W ws → Q .normal { tmps := (t0 :: t1 :: (.pointer (some ⟨A, 0, none⟩)) :: (.pointer (some ⟨B, 0, none⟩)) :: t4 :: (.int .i64 (j : Nat)) :: t6 :: t7 :: t8 :: t9 :: t10 :: t11 :: t12 :: t13 :: t14 :: t15 :: t16 :: t17 :: t18 :: t19 :: t20 :: t21 :: t22 :: t23 :: t24 :: t25 :: t26 :: t27 :: t28 :: t29 :: t30 :: t31 :: t32 :: t33 :: t34 :: t35 :: t36 :: t37 :: t38 :: t39 :: t40 :: t41 :: t42 :: t43 :: t44 :: t45 :: t46 :: t47 :: t48 :: t49 :: t50 :: t51 :: v52 :: v53 :: v54 :: v55 :: v56 :: v57 :: v58 :: v59 :: v60 :: v61 :: v62 :: v63 :: v64 :: v65 :: v66 :: .bool false :: t68 :: t69 :: t70 :: t71 :: t72 :: t73 :: t74 :: t75 :: t76 :: t77 :: t78 :: t79 :: t80 :: t81 :: t82 :: t83 :: t84 :: t85 :: t86 :: t87 :: t88 :: t89 :: t90 :: t91 :: t92 :: t93 :: t94 :: t95 :: t96 :: t97 :: t98 :: t99 :: t100 :: []).toArray, defers := [] } ws) :
    Code.wp Try.prog (Code.region 10 #[{ dst := some 52, op := Op.fieldAddr 28 (Operand.tmp 2) 0, type := 0, pos := "l13_patch.go:176", after := #[], guard := none }, { dst := some 53, op := Op.load 3 (Operand.tmp 52), type := 3, pos := "l13_patch.go:176", after := #[{ on := 0, ground := Ground.data }], guard := none }, { dst := some 54, op := Op.binOp BinOp.eql 3 (Operand.tmp 53) (Operand.const (Value.int IntKind.i64 6)) 3, type := 4, pos := "l13_patch.go:176", after := #[{ on := 1, ground := Ground.data }], guard := none }, { dst := some 55, op := Op.move (Operand.tmp 54), type := 4, pos := "l13_patch.go:176", after := #[{ on := 2, ground := Ground.data }], guard := none }, { dst := some 56, op := Op.fieldAddr 28 (Operand.tmp 2) 4, type := 0, pos := "l13_patch.go:176", after := #[{ on := 3, ground := Ground.guard }], guard := some (3, true) }, { dst := some 57, op := Op.load 26 (Operand.tmp 56), type := 26, pos := "l13_patch.go:176", after := #[{ on := 4, ground := Ground.data }, { on := 3, ground := Ground.guard }], guard := some (3, true) }, { dst := some 58, op := Op.move (Operand.tmp 5), type := 3, pos := "l13_patch.go:176", after := #[{ on := 3, ground := Ground.guard }], guard := some (3, true) }, { dst := some 59, op := Op.indexAddr 26 (Operand.tmp 57) (Operand.tmp 58), type := 0, pos := "l13_patch.go:176", after := #[{ on := 5, ground := Ground.data }, { on := 6, ground := Ground.data }, { on := 3, ground := Ground.guard }], guard := some (3, true) }, { dst := some 60, op := Op.load 9 (Operand.tmp 59), type := 9, pos := "l13_patch.go:176", after := #[{ on := 7, ground := Ground.data }, { on := 3, ground := Ground.guard }], guard := some (3, true) }, { dst := some 61, op := Op.fieldAddr 28 (Operand.tmp 3) 4, type := 0, pos := "l13_patch.go:176", after := #[{ on := 3, ground := Ground.guard }], guard := some (3, true) }, { dst := some 62, op := Op.load 26 (Operand.tmp 61), type := 26, pos := "l13_patch.go:176", after := #[{ on := 9, ground := Ground.data }, { on := 3, ground := Ground.guard }], guard := some (3, true) }, { dst := some 63, op := Op.move (Operand.tmp 5), type := 3, pos := "l13_patch.go:176", after := #[{ on := 3, ground := Ground.guard }], guard := some (3, true) }, { dst := some 64, op := Op.indexAddr 26 (Operand.tmp 62) (Operand.tmp 63), type := 0, pos := "l13_patch.go:176", after := #[{ on := 10, ground := Ground.data }, { on := 11, ground := Ground.data }, { on := 3, ground := Ground.guard }], guard := some (3, true) }, { dst := some 65, op := Op.load 9 (Operand.tmp 64), type := 9, pos := "l13_patch.go:176", after := #[{ on := 12, ground := Ground.data }, { on := 3, ground := Ground.guard }], guard := some (3, true) }, { dst := some 66, op := Op.binOp BinOp.neq 9 (Operand.tmp 60) (Operand.tmp 65) 9, type := 4, pos := "l13_patch.go:176", after := #[{ on := 8, ground := Ground.data }, { on := 13, ground := Ground.data }, { on := 3, ground := Ground.guard }], guard := some (3, true) }, { dst := some 67, op := Op.pick (Operand.tmp 55) (Operand.tmp 66) (Operand.const (Value.bool false)), type := 4, pos := "l13_patch.go:176", after := #[{ on := 3, ground := Ground.data }, { on := 14, ground := Ground.data }], guard := none }] true) Q { tmps := (t0 :: t1 :: (.pointer (some ⟨A, 0, none⟩)) :: (.pointer (some ⟨B, 0, none⟩)) :: t4 :: (.int .i64 (j : Nat)) :: t6 :: t7 :: t8 :: t9 :: t10 :: t11 :: t12 :: t13 :: t14 :: t15 :: t16 :: t17 :: t18 :: t19 :: t20 :: t21 :: t22 :: t23 :: t24 :: t25 :: t26 :: t27 :: t28 :: t29 :: t30 :: t31 :: t32 :: t33 :: t34 :: t35 :: t36 :: t37 :: t38 :: t39 :: t40 :: t41 :: t42 :: t43 :: t44 :: t45 :: t46 :: t47 :: t48 :: t49 :: t50 :: t51 :: t52 :: t53 :: t54 :: t55 :: t56 :: t57 :: t58 :: t59 :: t60 :: t61 :: t62 :: t63 :: t64 :: t65 :: t66 :: t67 :: t68 :: t69 :: t70 :: t71 :: t72 :: t73 :: t74 :: t75 :: t76 :: t77 :: t78 :: t79 :: t80 :: t81 :: t82 :: t83 :: t84 :: t85 :: t86 :: t87 :: t88 :: t89 :: t90 :: t91 :: t92 :: t93 :: t94 :: t95 :: t96 :: t97 :: t98 :: t99 :: t100 :: []).toArray, defers := [] } W := by
  have HSof : Hid (∀ w', Below W.heap.size W w' → w'.cell? ⟨A, 0, none⟩ = some (.int .i64 h.k)) := fun w' h => (hA.below h).1
  have hB0 := (Below.refl W.heap.size W).drew
  have hS0 := HSof.out _ hB0
  clear hA
  refine wp_region_held_drew (S := fun w' => w'.cell? ⟨A, 0, none⟩ = some (.int .i64 h.k)) (by kernel_rfl) hS0 (fun hHeld => ?_)
  refine wpAnyH_take (i := 0) (v := .pointer (some ⟨A, 0, none⟩)) rfl (by kernel_rfl) (by kernel_rfl) (by kernel_rfl) (fun _ _ _ h => hp _ _ _ _ _ h) (Or.inl ⟨by rfl, ?_⟩) (by assumption) ?_
  · intro w hSw
    (try dsimp only at hSw)
    go_simp
  (try simp only [Act.put, List.getElem_toArray, List.getElem_cons_zero, List.setIfInBounds_toArray, List.set_cons_zero, List.set_cons_succ])
  refine wpAnyH_take (i := 1) (v := .int .i64 h.k) rfl (by kernel_rfl) (by kernel_rfl) (by kernel_rfl) (fun _ _ _ h => hp _ _ _ _ _ h) (Or.inl ⟨by rfl, ?_⟩) (by assumption) ?_
  · intro w hSw
    (try dsimp only at hSw)
    go_simp
  (try simp only [Act.put, List.getElem_toArray, List.getElem_cons_zero, List.getElem_cons_succ, List.setIfInBounds_toArray, List.set_cons_zero, List.set_cons_succ])
  refine wpAnyH_take (i := 2) (v := .bool false) rfl (by kernel_rfl) (by kernel_rfl) (by kernel_rfl) (fun _ _ _ h => hp _ _ _ _ _ h) (Or.inl ⟨by rfl, ?_⟩) (by assumption) ?_
  · intro w hSw
    (try dsimp only at hSw)
    go_simp
  (try simp only [Act.put, List.getElem_toArray, List.getElem_cons_zero, List.getElem_cons_succ, List.setIfInBounds_toArray, List.set_cons_zero, List.set_cons_succ])
  refine wpAnyH_take (i := 3) (v := .bool false) rfl (by kernel_rfl) (by kernel_rfl) (by kernel_rfl) (fun _ _ _ h => hp _ _ _ _ _ h) (Or.inl ⟨by rfl, ?_⟩) (by assumption) ?_
  · intro w hSw
    (try dsimp only at hSw)
    go_simp
  (try simp only [Act.put, List.getElem_toArray, List.getElem_cons_zero, List.getElem_cons_succ, List.setIfInBounds_toArray, List.set_cons_zero, List.set_cons_succ])
  refine wpAnyH_take (i := 4) (v := undef) rfl (by kernel_rfl) (by kernel_rfl) (by kernel_rfl) (fun _ _ _ h => hp _ _ _ _ _ h) (Or.inr ⟨by rfl, rfl⟩) (by assumption) ?_
  (try simp only [Act.put, List.getElem_toArray, List.getElem_cons_zero, List.getElem_cons_succ, List.setIfInBounds_toArray, List.set_cons_zero, List.set_cons_succ])
  refine wpAnyH_take (i := 5) (v := undef) rfl (by kernel_rfl) (by kernel_rfl) (by kernel_rfl) (fun _ _ _ h => hp _ _ _ _ _ h) (Or.inr ⟨by rfl, rfl⟩) (by assumption) ?_
  (try simp only [Act.put, List.getElem_toArray, List.getElem_cons_zero, List.getElem_cons_succ, List.setIfInBounds_toArray, List.set_cons_zero, List.set_cons_succ])
  refine wpAnyH_take (i := 6) (v := undef) rfl (by kernel_rfl) (by kernel_rfl) (by kernel_rfl) (fun _ _ _ h => hp _ _ _ _ _ h) (Or.inr ⟨by rfl, rfl⟩) (by assumption) ?_
  (try simp only [Act.put, List.getElem_toArray, List.getElem_cons_zero, List.getElem_cons_succ, List.setIfInBounds_toArray, List.set_cons_zero, List.set_cons_succ])
  refine wpAnyH_take (i := 7) (v := undef) rfl (by kernel_rfl) (by kernel_rfl) (by kernel_rfl) (fun _ _ _ h => hp _ _ _ _ _ h) (Or.inr ⟨by rfl, rfl⟩) (by assumption) ?_
  (try simp only [Act.put, List.getElem_toArray, List.getElem_cons_zero, List.getElem_cons_succ, List.setIfInBounds_toArray, List.set_cons_zero, List.set_cons_succ])
  refine wpAnyH_take (i := 8) (v := undef) rfl (by kernel_rfl) (by kernel_rfl) (by kernel_rfl) (fun _ _ _ h => hp _ _ _ _ _ h) (Or.inr ⟨by rfl, rfl⟩) (by assumption) ?_
  (try simp only [Act.put, List.getElem_toArray, List.getElem_cons_zero, List.getElem_cons_succ, List.setIfInBounds_toArray, List.set_cons_zero, List.set_cons_succ])
  refine wpAnyH_take (i := 9) (v := undef) rfl (by kernel_rfl) (by kernel_rfl) (by kernel_rfl) (fun _ _ _ h => hp _ _ _ _ _ h) (Or.inr ⟨by rfl, rfl⟩) (by assumption) ?_
  (try simp only [Act.put, List.getElem_toArray, List.getElem_cons_zero, List.getElem_cons_succ, List.setIfInBounds_toArray, List.set_cons_zero, List.set_cons_succ])
  refine wpAnyH_take (i := 10) (v := undef) rfl (by kernel_rfl) (by kernel_rfl) (by kernel_rfl) (fun _ _ _ h => hp _ _ _ _ _ h) (Or.inr ⟨by rfl, rfl⟩) (by assumption) ?_
  (try simp only [Act.put, List.getElem_toArray, List.getElem_cons_zero, List.getElem_cons_succ, List.setIfInBounds_toArray, List.set_cons_zero, List.set_cons_succ])
  refine wpAnyH_take (i := 11) (v := undef) rfl (by kernel_rfl) (by kernel_rfl) (by kernel_rfl) (fun _ _ _ h => hp _ _ _ _ _ h) (Or.inr ⟨by rfl, rfl⟩) (by assumption) ?_
  (try simp only [Act.put, List.getElem_toArray, List.getElem_cons_zero, List.getElem_cons_succ, List.setIfInBounds_toArray, List.set_cons_zero, List.set_cons_succ])
  refine wpAnyH_take (i := 12) (v := undef) rfl (by kernel_rfl) (by kernel_rfl) (by kernel_rfl) (fun _ _ _ h => hp _ _ _ _ _ h) (Or.inr ⟨by rfl, rfl⟩) (by assumption) ?_
  (try simp only [Act.put, List.getElem_toArray, List.getElem_cons_zero, List.getElem_cons_succ, List.setIfInBounds_toArray, List.set_cons_zero, List.set_cons_succ])
  refine wpAnyH_take (i := 13) (v := undef) rfl (by kernel_rfl) (by kernel_rfl) (by kernel_rfl) (fun _ _ _ h => hp _ _ _ _ _ h) (Or.inr ⟨by rfl, rfl⟩) (by assumption) ?_
  (try simp only [Act.put, List.getElem_toArray, List.getElem_cons_zero, List.getElem_cons_succ, List.setIfInBounds_toArray, List.set_cons_zero, List.set_cons_succ])
  refine wpAnyH_take (i := 14) (v := undef) rfl (by kernel_rfl) (by kernel_rfl) (by kernel_rfl) (fun _ _ _ h => hp _ _ _ _ _ h) (Or.inr ⟨by rfl, rfl⟩) (by assumption) ?_
  (try simp only [Act.put, List.getElem_toArray, List.getElem_cons_zero, List.getElem_cons_succ, List.setIfInBounds_toArray, List.set_cons_zero, List.set_cons_succ])
  refine wpAnyH_take (i := 15) (v := .bool false) rfl (by kernel_rfl) (by kernel_rfl) (by kernel_rfl) (fun _ _ _ h => hp _ _ _ _ _ h) (Or.inl ⟨by rfl, ?_⟩) (by assumption) ?_
  · intro w hSw
    (try dsimp only at hSw)
    go_simp
  (try simp only [Act.put, List.getElem_toArray, List.getElem_cons_zero, List.getElem_cons_succ, List.setIfInBounds_toArray, List.set_cons_zero, List.set_cons_succ])
  refine wpAnyH_done (by kernel_rfl) ?_ _
  exact h_ _ _ _ _ _ _ _ _ _ _ _ _ _ _ _ _ hB0
set_option maxRecDepth 100000 in
set_option maxHeartbeats 1000000 in
theorem lc10 {Q : Exit → Act → World → Prop} {t0 t1 t4 t6 t7 t8 t9 t10 t11 t12 t13 t14 t15 t16 t17 t18 t19 t20 t21 t22 t23 t24 t25 t26 t27 t28 t29 t30 t31 t32 t33 t34 t35 t36 t37 t38 t39 t40 t41 t42 t43 t44 t45 t46 t47 t48 t49 t50 t51 t52 t53 t54 t55 t56 t57 t58 t59 t60 t61 t62 t63 t64 t65 t66 t67 t68 t69 t70 t71 t72 t73 t74 t75 t76 t77 t78 t79 t80 t81 t82 t83 t84 t85 t86 t87 t88 t89 t90 t91 t92 t93 t94 t95 t96 t97 t98 t99 t100 : Value} {W : World} {A B n c n2 c2 : Nat} {h g : Hd} {a a2 : Option Addr} {j : Nat} {nb no mb mo : Nat} {s p : ByteArray} {q : Bool}
    (hA : BxV A h (.slice a n c) W) (hB : BxV B g (.slice a2 n2 c2) W) (hk : h.k = 6) (ha : h.na = some ⟨nb, no, none⟩) (hb : g.na = some ⟨mb, mo, none⟩) (hj : (j : Int) < (h.ns.length : Int)) (hj2 : (j : Int) < (g.ns.length : Int)) (h1 : W.cell? ⟨nb, no + j, none⟩ = some (.string s)) (h2 : W.cell? ⟨mb, mo + j, none⟩ = some (.string p)) (hq : (s.toList != p.toList) = q)
    (hp : ∀ p d v a w, Q (.panic p) (Act.put a d v) w → Q (.panic p) a w) (h_ : ∀ ws v52 v53 v54 v55 v56 v57 v58 v59 v60 v61 v62 v63 v64 v65 v66, Below W.heap.size W ws → Q .normal { tmps := (t0 :: t1 :: (.pointer (some ⟨A, 0, none⟩)) :: (.pointer (some ⟨B, 0, none⟩)) :: t4 :: (.int .i64 (j : Nat)) :: t6 :: t7 :: t8 :: t9 :: t10 :: t11 :: t12 :: t13 :: t14 :: t15 :: t16 :: t17 :: t18 :: t19 :: t20 :: t21 :: t22 :: t23 :: t24 :: t25 :: t26 :: t27 :: t28 :: t29 :: t30 :: t31 :: t32 :: t33 :: t34 :: t35 :: t36 :: t37 :: t38 :: t39 :: t40 :: t41 :: t42 :: t43 :: t44 :: t45 :: t46 :: t47 :: t48 :: t49 :: t50 :: t51 :: v52 :: v53 :: v54 :: v55 :: v56 :: v57 :: v58 :: v59 :: v60 :: v61 :: v62 :: v63 :: v64 :: v65 :: v66 :: .bool q :: t68 :: t69 :: t70 :: t71 :: t72 :: t73 :: t74 :: t75 :: t76 :: t77 :: t78 :: t79 :: t80 :: t81 :: t82 :: t83 :: t84 :: t85 :: t86 :: t87 :: t88 :: t89 :: t90 :: t91 :: t92 :: t93 :: t94 :: t95 :: t96 :: t97 :: t98 :: t99 :: t100 :: []).toArray, defers := [] } ws) :
    Code.wp Try.prog (Code.region 10 #[{ dst := some 52, op := Op.fieldAddr 28 (Operand.tmp 2) 0, type := 0, pos := "l13_patch.go:176", after := #[], guard := none }, { dst := some 53, op := Op.load 3 (Operand.tmp 52), type := 3, pos := "l13_patch.go:176", after := #[{ on := 0, ground := Ground.data }], guard := none }, { dst := some 54, op := Op.binOp BinOp.eql 3 (Operand.tmp 53) (Operand.const (Value.int IntKind.i64 6)) 3, type := 4, pos := "l13_patch.go:176", after := #[{ on := 1, ground := Ground.data }], guard := none }, { dst := some 55, op := Op.move (Operand.tmp 54), type := 4, pos := "l13_patch.go:176", after := #[{ on := 2, ground := Ground.data }], guard := none }, { dst := some 56, op := Op.fieldAddr 28 (Operand.tmp 2) 4, type := 0, pos := "l13_patch.go:176", after := #[{ on := 3, ground := Ground.guard }], guard := some (3, true) }, { dst := some 57, op := Op.load 26 (Operand.tmp 56), type := 26, pos := "l13_patch.go:176", after := #[{ on := 4, ground := Ground.data }, { on := 3, ground := Ground.guard }], guard := some (3, true) }, { dst := some 58, op := Op.move (Operand.tmp 5), type := 3, pos := "l13_patch.go:176", after := #[{ on := 3, ground := Ground.guard }], guard := some (3, true) }, { dst := some 59, op := Op.indexAddr 26 (Operand.tmp 57) (Operand.tmp 58), type := 0, pos := "l13_patch.go:176", after := #[{ on := 5, ground := Ground.data }, { on := 6, ground := Ground.data }, { on := 3, ground := Ground.guard }], guard := some (3, true) }, { dst := some 60, op := Op.load 9 (Operand.tmp 59), type := 9, pos := "l13_patch.go:176", after := #[{ on := 7, ground := Ground.data }, { on := 3, ground := Ground.guard }], guard := some (3, true) }, { dst := some 61, op := Op.fieldAddr 28 (Operand.tmp 3) 4, type := 0, pos := "l13_patch.go:176", after := #[{ on := 3, ground := Ground.guard }], guard := some (3, true) }, { dst := some 62, op := Op.load 26 (Operand.tmp 61), type := 26, pos := "l13_patch.go:176", after := #[{ on := 9, ground := Ground.data }, { on := 3, ground := Ground.guard }], guard := some (3, true) }, { dst := some 63, op := Op.move (Operand.tmp 5), type := 3, pos := "l13_patch.go:176", after := #[{ on := 3, ground := Ground.guard }], guard := some (3, true) }, { dst := some 64, op := Op.indexAddr 26 (Operand.tmp 62) (Operand.tmp 63), type := 0, pos := "l13_patch.go:176", after := #[{ on := 10, ground := Ground.data }, { on := 11, ground := Ground.data }, { on := 3, ground := Ground.guard }], guard := some (3, true) }, { dst := some 65, op := Op.load 9 (Operand.tmp 64), type := 9, pos := "l13_patch.go:176", after := #[{ on := 12, ground := Ground.data }, { on := 3, ground := Ground.guard }], guard := some (3, true) }, { dst := some 66, op := Op.binOp BinOp.neq 9 (Operand.tmp 60) (Operand.tmp 65) 9, type := 4, pos := "l13_patch.go:176", after := #[{ on := 8, ground := Ground.data }, { on := 13, ground := Ground.data }, { on := 3, ground := Ground.guard }], guard := some (3, true) }, { dst := some 67, op := Op.pick (Operand.tmp 55) (Operand.tmp 66) (Operand.const (Value.bool false)), type := 4, pos := "l13_patch.go:176", after := #[{ on := 3, ground := Ground.data }, { on := 14, ground := Ground.data }], guard := none }] true) Q { tmps := (t0 :: t1 :: (.pointer (some ⟨A, 0, none⟩)) :: (.pointer (some ⟨B, 0, none⟩)) :: t4 :: (.int .i64 (j : Nat)) :: t6 :: t7 :: t8 :: t9 :: t10 :: t11 :: t12 :: t13 :: t14 :: t15 :: t16 :: t17 :: t18 :: t19 :: t20 :: t21 :: t22 :: t23 :: t24 :: t25 :: t26 :: t27 :: t28 :: t29 :: t30 :: t31 :: t32 :: t33 :: t34 :: t35 :: t36 :: t37 :: t38 :: t39 :: t40 :: t41 :: t42 :: t43 :: t44 :: t45 :: t46 :: t47 :: t48 :: t49 :: t50 :: t51 :: t52 :: t53 :: t54 :: t55 :: t56 :: t57 :: t58 :: t59 :: t60 :: t61 :: t62 :: t63 :: t64 :: t65 :: t66 :: t67 :: t68 :: t69 :: t70 :: t71 :: t72 :: t73 :: t74 :: t75 :: t76 :: t77 :: t78 :: t79 :: t80 :: t81 :: t82 :: t83 :: t84 :: t85 :: t86 :: t87 :: t88 :: t89 :: t90 :: t91 :: t92 :: t93 :: t94 :: t95 :: t96 :: t97 :: t98 :: t99 :: t100 :: []).toArray, defers := [] } W := by
  have HSof : Hid (∀ w', Below W.heap.size W w' → (w'.cell? ⟨A, 0, none⟩ = some (.int .i64 6) ∧ w'.cell? ⟨A, 5, none⟩ = some (.slice (some ⟨nb, no, none⟩) h.ns.length h.nc) ∧ w'.cell? ⟨B, 5, none⟩ = some (.slice (some ⟨mb, mo, none⟩) g.ns.length g.nc)) ∧ w'.cell? ⟨nb, no + j, none⟩ = some (.string s) ∧ w'.cell? ⟨mb, mo + j, none⟩ = some (.string p)) := fun w' h => by
    have h3 := hA.below h
    have h4 := hB.below h
    exact ⟨⟨by rw [← hk]; exact h3.1, by rw [← ha]; exact h3.2.2.2.2.2, by rw [← hb]; exact h4.2.2.2.2.2⟩, (h.cell (p := ⟨nb, no + j, none⟩) (World.block_lt_of_cell? _ _ h1)).trans h1, (h.cell (p := ⟨mb, mo + j, none⟩) (World.block_lt_of_cell? _ _ h2)).trans h2⟩
  have hB0 := (Below.refl W.heap.size W).drew
  have hS0 := HSof.out _ hB0
  clear hA hB hk ha hb h1 h2
  refine wp_region_held_drew (S := fun w' => (w'.cell? ⟨A, 0, none⟩ = some (.int .i64 6) ∧ w'.cell? ⟨A, 5, none⟩ = some (.slice (some ⟨nb, no, none⟩) h.ns.length h.nc) ∧ w'.cell? ⟨B, 5, none⟩ = some (.slice (some ⟨mb, mo, none⟩) g.ns.length g.nc)) ∧ w'.cell? ⟨nb, no + j, none⟩ = some (.string s) ∧ w'.cell? ⟨mb, mo + j, none⟩ = some (.string p)) (by kernel_rfl) hS0 (fun hHeld => ?_)
  refine wpAnyH_take (i := 0) (v := .pointer (some ⟨A, 0, none⟩)) rfl (by kernel_rfl) (by kernel_rfl) (by kernel_rfl) (fun _ _ _ h => hp _ _ _ _ _ h) (Or.inl ⟨by rfl, ?_⟩) (by assumption) ?_
  · intro w hSw
    (try dsimp only at hSw)
    go_simp
  (try simp only [Act.put, List.getElem_toArray, List.getElem_cons_zero, List.setIfInBounds_toArray, List.set_cons_zero, List.set_cons_succ])
  refine wpAnyH_take (i := 1) (v := .int .i64 6) rfl (by kernel_rfl) (by kernel_rfl) (by kernel_rfl) (fun _ _ _ h => hp _ _ _ _ _ h) (Or.inl ⟨by rfl, ?_⟩) (by assumption) ?_
  · intro w hSw
    (try dsimp only at hSw)
    go_simp
  (try simp only [Act.put, List.getElem_toArray, List.getElem_cons_zero, List.getElem_cons_succ, List.setIfInBounds_toArray, List.set_cons_zero, List.set_cons_succ])
  refine wpAnyH_take (i := 2) (v := .bool true) rfl (by kernel_rfl) (by kernel_rfl) (by kernel_rfl) (fun _ _ _ h => hp _ _ _ _ _ h) (Or.inl ⟨by rfl, ?_⟩) (by assumption) ?_
  · intro w hSw
    (try dsimp only at hSw)
    go_simp
  (try simp only [Act.put, List.getElem_toArray, List.getElem_cons_zero, List.getElem_cons_succ, List.setIfInBounds_toArray, List.set_cons_zero, List.set_cons_succ])
  refine wpAnyH_take (i := 3) (v := .bool true) rfl (by kernel_rfl) (by kernel_rfl) (by kernel_rfl) (fun _ _ _ h => hp _ _ _ _ _ h) (Or.inl ⟨by rfl, ?_⟩) (by assumption) ?_
  · intro w hSw
    (try dsimp only at hSw)
    go_simp
  (try simp only [Act.put, List.getElem_toArray, List.getElem_cons_zero, List.getElem_cons_succ, List.setIfInBounds_toArray, List.set_cons_zero, List.set_cons_succ])
  refine wpAnyH_take (i := 4) (v := .pointer (some ⟨A, 5, none⟩)) rfl (by kernel_rfl) (by kernel_rfl) (by kernel_rfl) (fun _ _ _ h => hp _ _ _ _ _ h) (Or.inl ⟨by rfl, ?_⟩) (by assumption) ?_
  · intro w hSw
    (try dsimp only at hSw)
    go_simp
  (try simp only [Act.put, List.getElem_toArray, List.getElem_cons_zero, List.getElem_cons_succ, List.setIfInBounds_toArray, List.set_cons_zero, List.set_cons_succ])
  refine wpAnyH_take (i := 5) (v := .slice (some ⟨nb, no, none⟩) h.ns.length h.nc) rfl (by kernel_rfl) (by kernel_rfl) (by kernel_rfl) (fun _ _ _ h => hp _ _ _ _ _ h) (Or.inl ⟨by rfl, ?_⟩) (by assumption) ?_
  · intro w hSw
    (try dsimp only at hSw)
    go_simp
  (try simp only [Act.put, List.getElem_toArray, List.getElem_cons_zero, List.getElem_cons_succ, List.setIfInBounds_toArray, List.set_cons_zero, List.set_cons_succ])
  refine wpAnyH_take (i := 6) (v := .int .i64 (j : Nat)) rfl (by kernel_rfl) (by kernel_rfl) (by kernel_rfl) (fun _ _ _ h => hp _ _ _ _ _ h) (Or.inl ⟨by rfl, ?_⟩) (by assumption) ?_
  · intro w hSw
    (try dsimp only at hSw)
    go_simp
  (try simp only [Act.put, List.getElem_toArray, List.getElem_cons_zero, List.getElem_cons_succ, List.setIfInBounds_toArray, List.set_cons_zero, List.set_cons_succ])
  refine wpAnyH_take (i := 7) (v := .pointer (some ⟨nb, no + j, none⟩)) rfl (by kernel_rfl) (by kernel_rfl) (by kernel_rfl) (fun _ _ _ h => hp _ _ _ _ _ h) (Or.inl ⟨by rfl, ?_⟩) (by assumption) ?_
  · intro w hSw
    (try dsimp only at hSw)
    go_simp
  (try simp only [Act.put, List.getElem_toArray, List.getElem_cons_zero, List.getElem_cons_succ, List.setIfInBounds_toArray, List.set_cons_zero, List.set_cons_succ])
  refine wpAnyH_take (i := 8) (v := .string s) rfl (by kernel_rfl) (by kernel_rfl) (by kernel_rfl) (fun _ _ _ h => hp _ _ _ _ _ h) (Or.inl ⟨by rfl, ?_⟩) (by assumption) ?_
  · intro w hSw
    (try dsimp only at hSw)
    go_simp
  (try simp only [Act.put, List.getElem_toArray, List.getElem_cons_zero, List.getElem_cons_succ, List.setIfInBounds_toArray, List.set_cons_zero, List.set_cons_succ])
  refine wpAnyH_take (i := 9) (v := .pointer (some ⟨B, 5, none⟩)) rfl (by kernel_rfl) (by kernel_rfl) (by kernel_rfl) (fun _ _ _ h => hp _ _ _ _ _ h) (Or.inl ⟨by rfl, ?_⟩) (by assumption) ?_
  · intro w hSw
    (try dsimp only at hSw)
    go_simp
  (try simp only [Act.put, List.getElem_toArray, List.getElem_cons_zero, List.getElem_cons_succ, List.setIfInBounds_toArray, List.set_cons_zero, List.set_cons_succ])
  refine wpAnyH_take (i := 10) (v := .slice (some ⟨mb, mo, none⟩) g.ns.length g.nc) rfl (by kernel_rfl) (by kernel_rfl) (by kernel_rfl) (fun _ _ _ h => hp _ _ _ _ _ h) (Or.inl ⟨by rfl, ?_⟩) (by assumption) ?_
  · intro w hSw
    (try dsimp only at hSw)
    go_simp
  (try simp only [Act.put, List.getElem_toArray, List.getElem_cons_zero, List.getElem_cons_succ, List.setIfInBounds_toArray, List.set_cons_zero, List.set_cons_succ])
  refine wpAnyH_take (i := 11) (v := .int .i64 (j : Nat)) rfl (by kernel_rfl) (by kernel_rfl) (by kernel_rfl) (fun _ _ _ h => hp _ _ _ _ _ h) (Or.inl ⟨by rfl, ?_⟩) (by assumption) ?_
  · intro w hSw
    (try dsimp only at hSw)
    go_simp
  (try simp only [Act.put, List.getElem_toArray, List.getElem_cons_zero, List.getElem_cons_succ, List.setIfInBounds_toArray, List.set_cons_zero, List.set_cons_succ])
  refine wpAnyH_take (i := 12) (v := .pointer (some ⟨mb, mo + j, none⟩)) rfl (by kernel_rfl) (by kernel_rfl) (by kernel_rfl) (fun _ _ _ h => hp _ _ _ _ _ h) (Or.inl ⟨by rfl, ?_⟩) (by assumption) ?_
  · intro w hSw
    (try dsimp only at hSw)
    go_simp
  (try simp only [Act.put, List.getElem_toArray, List.getElem_cons_zero, List.getElem_cons_succ, List.setIfInBounds_toArray, List.set_cons_zero, List.set_cons_succ])
  refine wpAnyH_take (i := 13) (v := .string p) rfl (by kernel_rfl) (by kernel_rfl) (by kernel_rfl) (fun _ _ _ h => hp _ _ _ _ _ h) (Or.inl ⟨by rfl, ?_⟩) (by assumption) ?_
  · intro w hSw
    (try dsimp only at hSw)
    go_simp
  (try simp only [Act.put, List.getElem_toArray, List.getElem_cons_zero, List.getElem_cons_succ, List.setIfInBounds_toArray, List.set_cons_zero, List.set_cons_succ])
  refine wpAnyH_take (i := 14) (v := .bool q) rfl (by kernel_rfl) (by kernel_rfl) (by kernel_rfl) (fun _ _ _ h => hp _ _ _ _ _ h) (Or.inl ⟨by rfl, ?_⟩) (by assumption) ?_
  · intro w hSw
    (try dsimp only at hSw)
    (go_simp; rw [← hq]; simp [bne])
  (try simp only [Act.put, List.getElem_toArray, List.getElem_cons_zero, List.getElem_cons_succ, List.setIfInBounds_toArray, List.set_cons_zero, List.set_cons_succ])
  refine wpAnyH_take (i := 15) (v := .bool q) rfl (by kernel_rfl) (by kernel_rfl) (by kernel_rfl) (fun _ _ _ h => hp _ _ _ _ _ h) (Or.inl ⟨by rfl, ?_⟩) (by assumption) ?_
  · intro w hSw
    (try dsimp only at hSw)
    go_simp
  (try simp only [Act.put, List.getElem_toArray, List.getElem_cons_zero, List.getElem_cons_succ, List.setIfInBounds_toArray, List.set_cons_zero, List.set_cons_succ])
  refine wpAnyH_done (by kernel_rfl) ?_ _
  exact h_ _ _ _ _ _ _ _ _ _ _ _ _ _ _ _ _ hB0
set_option maxRecDepth 100000 in
set_option maxHeartbeats 1000000 in
theorem lc11 {Q : Exit → Act → World → Prop} {t0 t1 t4 t6 t7 t8 t9 t10 t11 t12 t13 t14 t15 t16 t17 t18 t19 t20 t21 t22 t23 t24 t25 t26 t27 t28 t29 t30 t31 t32 t33 t34 t35 t36 t37 t38 t39 t40 t41 t42 t43 t44 t45 t46 t47 t48 t49 t50 t51 t52 t53 t54 t55 t56 t57 t58 t59 t60 t61 t62 t63 t64 t65 t66 t67 t68 t69 t70 t71 t72 t73 t74 t75 t76 t77 t78 t79 t80 t81 t82 t83 t84 t85 t86 t87 t88 t89 t90 t91 t92 t93 t94 t95 t96 t97 t98 t99 t100 : Value} {W : World} {A B n c n2 c2 : Nat} {h g : Hd} {a a2 : Option Addr} {j nb no mb mo : Nat} {s p : ByteArray}
    (hA : BxV A h (.slice a n c) W) (hB : BxV B g (.slice a2 n2 c2) W) (ha : h.na = some ⟨nb, no, none⟩) (hb : g.na = some ⟨mb, mo, none⟩) (hj : (j : Int) < (h.ns.length : Int)) (hj2 : (j : Int) < (g.ns.length : Int)) (h1 : W.cell? ⟨nb, no + j, none⟩ = some (.string s)) (h2 : W.cell? ⟨mb, mo + j, none⟩ = some (.string p))
    (hp : ∀ p d v a w, Q (.panic p) (Act.put a d v) w → Q (.panic p) a w) (h_ : ∀ ws v68 v69 v70 v71 v72 v73 v74 v75 v76 v77 v78, Below W.heap.size W ws → Q .normal { tmps := (t0 :: t1 :: (.pointer (some ⟨A, 0, none⟩)) :: (.pointer (some ⟨B, 0, none⟩)) :: (.int .i64 (tord s p)) :: (.int .i64 (j : Nat)) :: t6 :: t7 :: t8 :: t9 :: t10 :: t11 :: t12 :: t13 :: t14 :: t15 :: t16 :: t17 :: t18 :: t19 :: t20 :: t21 :: t22 :: t23 :: t24 :: t25 :: t26 :: t27 :: t28 :: t29 :: t30 :: t31 :: t32 :: t33 :: t34 :: t35 :: t36 :: t37 :: t38 :: t39 :: t40 :: t41 :: t42 :: t43 :: t44 :: t45 :: t46 :: t47 :: t48 :: t49 :: t50 :: t51 :: t52 :: t53 :: t54 :: t55 :: t56 :: t57 :: t58 :: t59 :: t60 :: t61 :: t62 :: t63 :: t64 :: t65 :: t66 :: t67 :: v68 :: v69 :: v70 :: v71 :: v72 :: v73 :: v74 :: v75 :: v76 :: v77 :: v78 :: t79 :: t80 :: t81 :: t82 :: t83 :: t84 :: t85 :: t86 :: t87 :: t88 :: t89 :: t90 :: t91 :: t92 :: t93 :: t94 :: t95 :: t96 :: t97 :: t98 :: t99 :: t100 :: []).toArray, defers := [] } ws) :
    Code.wp Try.prog (Code.region 11 #[{ dst := some 68, op := Op.fieldAddr 28 (Operand.tmp 2) 4, type := 0, pos := "l13_patch.go:177", after := #[], guard := none }, { dst := some 69, op := Op.load 26 (Operand.tmp 68), type := 26, pos := "l13_patch.go:177", after := #[{ on := 0, ground := Ground.data }], guard := none }, { dst := some 70, op := Op.move (Operand.tmp 5), type := 3, pos := "l13_patch.go:177", after := #[], guard := none }, { dst := some 71, op := Op.indexAddr 26 (Operand.tmp 69) (Operand.tmp 70), type := 0, pos := "l13_patch.go:177", after := #[{ on := 1, ground := Ground.data }, { on := 2, ground := Ground.data }], guard := none }, { dst := some 72, op := Op.load 9 (Operand.tmp 71), type := 9, pos := "l13_patch.go:177", after := #[{ on := 3, ground := Ground.data }], guard := none }, { dst := some 73, op := Op.fieldAddr 28 (Operand.tmp 3) 4, type := 0, pos := "l13_patch.go:177", after := #[], guard := none }, { dst := some 74, op := Op.load 26 (Operand.tmp 73), type := 26, pos := "l13_patch.go:177", after := #[{ on := 5, ground := Ground.data }], guard := none }, { dst := some 75, op := Op.move (Operand.tmp 5), type := 3, pos := "l13_patch.go:177", after := #[], guard := none }, { dst := some 76, op := Op.indexAddr 26 (Operand.tmp 74) (Operand.tmp 75), type := 0, pos := "l13_patch.go:177", after := #[{ on := 6, ground := Ground.data }, { on := 7, ground := Ground.data }], guard := none }, { dst := some 77, op := Op.load 9 (Operand.tmp 76), type := 9, pos := "l13_patch.go:177", after := #[{ on := 8, ground := Ground.data }], guard := none }, { dst := some 78, op := Op.call { callee := Callee.value (Operand.func 65), args := #[Operand.tmp 72, Operand.tmp 77], argTypes := #[9, 9] }, type := 3, pos := "l13_patch.go:177", after := #[{ on := 4, ground := Ground.data }, { on := 9, ground := Ground.data }], guard := none }, { dst := some 4, op := Op.assign (Operand.tmp 78), type := 3, pos := "l13_patch.go:177", after := #[{ on := 10, ground := Ground.data }, { on := 10, ground := Ground.chain }, { on := 0, ground := Ground.phase }, { on := 1, ground := Ground.phase }, { on := 2, ground := Ground.phase }, { on := 3, ground := Ground.phase }, { on := 4, ground := Ground.phase }, { on := 5, ground := Ground.phase }, { on := 6, ground := Ground.phase }, { on := 7, ground := Ground.phase }, { on := 8, ground := Ground.phase }, { on := 9, ground := Ground.phase }, { on := 10, ground := Ground.phase }], guard := none }] true) Q { tmps := (t0 :: t1 :: (.pointer (some ⟨A, 0, none⟩)) :: (.pointer (some ⟨B, 0, none⟩)) :: t4 :: (.int .i64 (j : Nat)) :: t6 :: t7 :: t8 :: t9 :: t10 :: t11 :: t12 :: t13 :: t14 :: t15 :: t16 :: t17 :: t18 :: t19 :: t20 :: t21 :: t22 :: t23 :: t24 :: t25 :: t26 :: t27 :: t28 :: t29 :: t30 :: t31 :: t32 :: t33 :: t34 :: t35 :: t36 :: t37 :: t38 :: t39 :: t40 :: t41 :: t42 :: t43 :: t44 :: t45 :: t46 :: t47 :: t48 :: t49 :: t50 :: t51 :: t52 :: t53 :: t54 :: t55 :: t56 :: t57 :: t58 :: t59 :: t60 :: t61 :: t62 :: t63 :: t64 :: t65 :: t66 :: t67 :: t68 :: t69 :: t70 :: t71 :: t72 :: t73 :: t74 :: t75 :: t76 :: t77 :: t78 :: t79 :: t80 :: t81 :: t82 :: t83 :: t84 :: t85 :: t86 :: t87 :: t88 :: t89 :: t90 :: t91 :: t92 :: t93 :: t94 :: t95 :: t96 :: t97 :: t98 :: t99 :: t100 :: []).toArray, defers := [] } W := by
  have HSof : Hid (∀ w', Below W.heap.size W w' → (w'.cell? ⟨A, 5, none⟩ = some (.slice (some ⟨nb, no, none⟩) h.ns.length h.nc) ∧ w'.cell? ⟨B, 5, none⟩ = some (.slice (some ⟨mb, mo, none⟩) g.ns.length g.nc)) ∧ w'.cell? ⟨nb, no + j, none⟩ = some (.string s) ∧ w'.cell? ⟨mb, mo + j, none⟩ = some (.string p)) := fun w' h => by
    have h3 := hA.below h
    have h4 := hB.below h
    exact ⟨⟨by rw [← ha]; exact h3.2.2.2.2.2, by rw [← hb]; exact h4.2.2.2.2.2⟩, (h.cell (p := ⟨nb, no + j, none⟩) (World.block_lt_of_cell? _ _ h1)).trans h1, (h.cell (p := ⟨mb, mo + j, none⟩) (World.block_lt_of_cell? _ _ h2)).trans h2⟩
  have hB0 := (Below.refl W.heap.size W).drew
  have hS0 := HSof.out _ hB0
  clear hA hB ha hb h1 h2
  refine wp_region_held_drew (S := fun w' => (w'.cell? ⟨A, 5, none⟩ = some (.slice (some ⟨nb, no, none⟩) h.ns.length h.nc) ∧ w'.cell? ⟨B, 5, none⟩ = some (.slice (some ⟨mb, mo, none⟩) g.ns.length g.nc)) ∧ w'.cell? ⟨nb, no + j, none⟩ = some (.string s) ∧ w'.cell? ⟨mb, mo + j, none⟩ = some (.string p)) (by kernel_rfl) hS0 (fun hHeld => ?_)
  refine wpAnyH_take (i := 0) (v := .pointer (some ⟨A, 5, none⟩)) rfl (by kernel_rfl) (by kernel_rfl) (by kernel_rfl) (fun _ _ _ h => hp _ _ _ _ _ h) (Or.inl ⟨by rfl, ?_⟩) (by assumption) ?_
  · intro w hSw
    (try dsimp only at hSw)
    go_simp
  (try simp only [Act.put, List.getElem_toArray, List.getElem_cons_zero, List.setIfInBounds_toArray, List.set_cons_zero, List.set_cons_succ])
  refine wpAnyH_take (i := 1) (v := .slice (some ⟨nb, no, none⟩) h.ns.length h.nc) rfl (by kernel_rfl) (by kernel_rfl) (by kernel_rfl) (fun _ _ _ h => hp _ _ _ _ _ h) (Or.inl ⟨by rfl, ?_⟩) (by assumption) ?_
  · intro w hSw
    (try dsimp only at hSw)
    go_simp
  (try simp only [Act.put, List.getElem_toArray, List.getElem_cons_zero, List.getElem_cons_succ, List.setIfInBounds_toArray, List.set_cons_zero, List.set_cons_succ])
  refine wpAnyH_take (i := 2) (v := .int .i64 (j : Nat)) rfl (by kernel_rfl) (by kernel_rfl) (by kernel_rfl) (fun _ _ _ h => hp _ _ _ _ _ h) (Or.inl ⟨by rfl, ?_⟩) (by assumption) ?_
  · intro w hSw
    (try dsimp only at hSw)
    go_simp
  (try simp only [Act.put, List.getElem_toArray, List.getElem_cons_zero, List.getElem_cons_succ, List.setIfInBounds_toArray, List.set_cons_zero, List.set_cons_succ])
  refine wpAnyH_take (i := 3) (v := .pointer (some ⟨nb, no + j, none⟩)) rfl (by kernel_rfl) (by kernel_rfl) (by kernel_rfl) (fun _ _ _ h => hp _ _ _ _ _ h) (Or.inl ⟨by rfl, ?_⟩) (by assumption) ?_
  · intro w hSw
    (try dsimp only at hSw)
    go_simp
  (try simp only [Act.put, List.getElem_toArray, List.getElem_cons_zero, List.getElem_cons_succ, List.setIfInBounds_toArray, List.set_cons_zero, List.set_cons_succ])
  refine wpAnyH_take (i := 4) (v := .string s) rfl (by kernel_rfl) (by kernel_rfl) (by kernel_rfl) (fun _ _ _ h => hp _ _ _ _ _ h) (Or.inl ⟨by rfl, ?_⟩) (by assumption) ?_
  · intro w hSw
    (try dsimp only at hSw)
    go_simp
  (try simp only [Act.put, List.getElem_toArray, List.getElem_cons_zero, List.getElem_cons_succ, List.setIfInBounds_toArray, List.set_cons_zero, List.set_cons_succ])
  refine wpAnyH_take (i := 5) (v := .pointer (some ⟨B, 5, none⟩)) rfl (by kernel_rfl) (by kernel_rfl) (by kernel_rfl) (fun _ _ _ h => hp _ _ _ _ _ h) (Or.inl ⟨by rfl, ?_⟩) (by assumption) ?_
  · intro w hSw
    (try dsimp only at hSw)
    go_simp
  (try simp only [Act.put, List.getElem_toArray, List.getElem_cons_zero, List.getElem_cons_succ, List.setIfInBounds_toArray, List.set_cons_zero, List.set_cons_succ])
  refine wpAnyH_take (i := 6) (v := .slice (some ⟨mb, mo, none⟩) g.ns.length g.nc) rfl (by kernel_rfl) (by kernel_rfl) (by kernel_rfl) (fun _ _ _ h => hp _ _ _ _ _ h) (Or.inl ⟨by rfl, ?_⟩) (by assumption) ?_
  · intro w hSw
    (try dsimp only at hSw)
    go_simp
  (try simp only [Act.put, List.getElem_toArray, List.getElem_cons_zero, List.getElem_cons_succ, List.setIfInBounds_toArray, List.set_cons_zero, List.set_cons_succ])
  refine wpAnyH_take (i := 7) (v := .int .i64 (j : Nat)) rfl (by kernel_rfl) (by kernel_rfl) (by kernel_rfl) (fun _ _ _ h => hp _ _ _ _ _ h) (Or.inl ⟨by rfl, ?_⟩) (by assumption) ?_
  · intro w hSw
    (try dsimp only at hSw)
    go_simp
  (try simp only [Act.put, List.getElem_toArray, List.getElem_cons_zero, List.getElem_cons_succ, List.setIfInBounds_toArray, List.set_cons_zero, List.set_cons_succ])
  refine wpAnyH_take (i := 8) (v := .pointer (some ⟨mb, mo + j, none⟩)) rfl (by kernel_rfl) (by kernel_rfl) (by kernel_rfl) (fun _ _ _ h => hp _ _ _ _ _ h) (Or.inl ⟨by rfl, ?_⟩) (by assumption) ?_
  · intro w hSw
    (try dsimp only at hSw)
    go_simp
  (try simp only [Act.put, List.getElem_toArray, List.getElem_cons_zero, List.getElem_cons_succ, List.setIfInBounds_toArray, List.set_cons_zero, List.set_cons_succ])
  refine wpAnyH_take (i := 9) (v := .string p) rfl (by kernel_rfl) (by kernel_rfl) (by kernel_rfl) (fun _ _ _ h => hp _ _ _ _ _ h) (Or.inl ⟨by rfl, ?_⟩) (by assumption) ?_
  · intro w hSw
    (try dsimp only at hSw)
    go_simp
  (try simp only [Act.put, List.getElem_toArray, List.getElem_cons_zero, List.getElem_cons_succ, List.setIfInBounds_toArray, List.set_cons_zero, List.set_cons_succ])
  refine wpAnyH_ready (rs := [10]) (by kernel_rfl) (by simp) ?_
  refine AllReadyH.cons rfl (fun K hK => ?_) AllReadyH.nil
  go_simp
  refine (l8Texts_any s p _).mono ?_
  rintro r w1 ⟨rfl, hw1⟩
  subst w1
  go_wp2_with fail
  refine hK.out _ _ (HSof.out _ hB0) (fun hHeld => ?_)
  clear hK K
  refine wpAnyH_take (i := 11) (v := .int .i64 (tord s p)) rfl (by kernel_rfl) (by kernel_rfl) (by kernel_rfl) (fun _ _ _ h => hp _ _ _ _ _ h) (Or.inl ⟨by rfl, ?_⟩) (by assumption) ?_
  · intro w hSw
    (try dsimp only at hSw)
    go_simp
  (try simp only [Act.put, List.getElem_toArray, List.getElem_cons_zero, List.getElem_cons_succ, List.setIfInBounds_toArray, List.set_cons_zero, List.set_cons_succ])
  refine wpAnyH_done (by kernel_rfl) ?_ _
  exact h_ _ _ _ _ _ _ _ _ _ _ _ _ hB0
set_option maxRecDepth 100000 in
set_option maxHeartbeats 1000000 in
theorem lc12 {Q : Exit → Act → World → Prop} {t0 t1 t4 t6 t7 t8 t9 t10 t11 t12 t13 t14 t15 t16 t17 t18 t19 t20 t21 t22 t23 t24 t25 t26 t27 t28 t29 t30 t31 t32 t33 t34 t35 t36 t37 t38 t39 t40 t41 t42 t43 t44 t45 t46 t47 t48 t49 t50 t51 t52 t53 t54 t55 t56 t57 t58 t59 t60 t61 t62 t63 t64 t65 t66 t67 t68 t69 t70 t71 t72 t73 t74 t75 t76 t77 t78 t79 t80 t81 t82 t83 t84 t85 t86 t87 t88 t89 t90 t91 t92 t93 t94 t95 t96 t97 t98 t99 t100 : Value} {W : World} {A B n c n2 c2 b o b2 o2 j nx cx ny cy : Nat} {h g x y : Hd} {ax ay : Option Addr} {V : Int}
    (hA : BxV A h (.slice (some ⟨b, o, none⟩) n c) W) (hB : BxV B g (.slice (some ⟨b2, o2, none⟩) n2 c2) W) (hj : (j : Int) < (n : Int)) (hj2 : (j : Int) < (n2 : Int)) (h1 : Cells6 W b (o + j * 6) x (.slice ax nx cx)) (h2 : Cells6 W b2 (o2 + j * 6) y (.slice ay ny cy)) (hcall : ∀ W', Below W.heap.size W W' → Calls Try.prog 37 #[valV x ax nx cx, valV y ay ny cy] W' fun r w' => r = .returned (.int .i64 V) ∧ Below W'.heap.size W' w')
    (hp : ∀ p d v a w, Q (.panic p) (Act.put a d v) w → Q (.panic p) a w) (h_ : ∀ ws v79 v80 v81 v82 v83 v84 v85 v86 v87 v88 v89, Below W.heap.size W ws → Q .normal { tmps := (t0 :: t1 :: (.pointer (some ⟨A, 0, none⟩)) :: (.pointer (some ⟨B, 0, none⟩)) :: t4 :: (.int .i64 (j : Nat)) :: (.int .i64 V) :: t7 :: t8 :: t9 :: t10 :: t11 :: t12 :: t13 :: t14 :: t15 :: t16 :: t17 :: t18 :: t19 :: t20 :: t21 :: t22 :: t23 :: t24 :: t25 :: t26 :: t27 :: t28 :: t29 :: t30 :: t31 :: t32 :: t33 :: t34 :: t35 :: t36 :: t37 :: t38 :: t39 :: t40 :: t41 :: t42 :: t43 :: t44 :: t45 :: t46 :: t47 :: t48 :: t49 :: t50 :: t51 :: t52 :: t53 :: t54 :: t55 :: t56 :: t57 :: t58 :: t59 :: t60 :: t61 :: t62 :: t63 :: t64 :: t65 :: t66 :: t67 :: t68 :: t69 :: t70 :: t71 :: t72 :: t73 :: t74 :: t75 :: t76 :: t77 :: t78 :: v79 :: v80 :: v81 :: v82 :: v83 :: v84 :: v85 :: v86 :: v87 :: v88 :: v89 :: t90 :: t91 :: t92 :: t93 :: t94 :: t95 :: t96 :: t97 :: t98 :: t99 :: t100 :: []).toArray, defers := [] } ws) :
    Code.wp Try.prog (Code.region 12 #[{ dst := some 79, op := Op.fieldAddr 28 (Operand.tmp 2) 3, type := 0, pos := "l13_patch.go:179", after := #[], guard := none }, { dst := some 80, op := Op.load 25 (Operand.tmp 79), type := 25, pos := "l13_patch.go:179", after := #[{ on := 0, ground := Ground.data }], guard := none }, { dst := some 81, op := Op.move (Operand.tmp 5), type := 3, pos := "l13_patch.go:179", after := #[], guard := none }, { dst := some 82, op := Op.indexAddr 25 (Operand.tmp 80) (Operand.tmp 81), type := 0, pos := "l13_patch.go:179", after := #[{ on := 1, ground := Ground.data }, { on := 2, ground := Ground.data }], guard := none }, { dst := some 83, op := Op.load 28 (Operand.tmp 82), type := 28, pos := "l13_patch.go:179", after := #[{ on := 3, ground := Ground.data }], guard := none }, { dst := some 84, op := Op.fieldAddr 28 (Operand.tmp 3) 3, type := 0, pos := "l13_patch.go:179", after := #[], guard := none }, { dst := some 85, op := Op.load 25 (Operand.tmp 84), type := 25, pos := "l13_patch.go:179", after := #[{ on := 5, ground := Ground.data }], guard := none }, { dst := some 86, op := Op.move (Operand.tmp 5), type := 3, pos := "l13_patch.go:179", after := #[], guard := none }, { dst := some 87, op := Op.indexAddr 25 (Operand.tmp 85) (Operand.tmp 86), type := 0, pos := "l13_patch.go:179", after := #[{ on := 6, ground := Ground.data }, { on := 7, ground := Ground.data }], guard := none }, { dst := some 88, op := Op.load 28 (Operand.tmp 87), type := 28, pos := "l13_patch.go:179", after := #[{ on := 8, ground := Ground.data }], guard := none }, { dst := some 89, op := Op.call { callee := Callee.value (Operand.func 37), args := #[Operand.tmp 83, Operand.tmp 88], argTypes := #[28, 28] }, type := 3, pos := "l13_patch.go:179", after := #[{ on := 4, ground := Ground.data }, { on := 9, ground := Ground.data }], guard := none }, { dst := some 6, op := Op.assign (Operand.tmp 89), type := 3, pos := "l13_patch.go:179", after := #[{ on := 10, ground := Ground.data }, { on := 10, ground := Ground.chain }, { on := 0, ground := Ground.phase }, { on := 1, ground := Ground.phase }, { on := 2, ground := Ground.phase }, { on := 3, ground := Ground.phase }, { on := 4, ground := Ground.phase }, { on := 5, ground := Ground.phase }, { on := 6, ground := Ground.phase }, { on := 7, ground := Ground.phase }, { on := 8, ground := Ground.phase }, { on := 9, ground := Ground.phase }, { on := 10, ground := Ground.phase }], guard := none }] true) Q { tmps := (t0 :: t1 :: (.pointer (some ⟨A, 0, none⟩)) :: (.pointer (some ⟨B, 0, none⟩)) :: t4 :: (.int .i64 (j : Nat)) :: t6 :: t7 :: t8 :: t9 :: t10 :: t11 :: t12 :: t13 :: t14 :: t15 :: t16 :: t17 :: t18 :: t19 :: t20 :: t21 :: t22 :: t23 :: t24 :: t25 :: t26 :: t27 :: t28 :: t29 :: t30 :: t31 :: t32 :: t33 :: t34 :: t35 :: t36 :: t37 :: t38 :: t39 :: t40 :: t41 :: t42 :: t43 :: t44 :: t45 :: t46 :: t47 :: t48 :: t49 :: t50 :: t51 :: t52 :: t53 :: t54 :: t55 :: t56 :: t57 :: t58 :: t59 :: t60 :: t61 :: t62 :: t63 :: t64 :: t65 :: t66 :: t67 :: t68 :: t69 :: t70 :: t71 :: t72 :: t73 :: t74 :: t75 :: t76 :: t77 :: t78 :: t79 :: t80 :: t81 :: t82 :: t83 :: t84 :: t85 :: t86 :: t87 :: t88 :: t89 :: t90 :: t91 :: t92 :: t93 :: t94 :: t95 :: t96 :: t97 :: t98 :: t99 :: t100 :: []).toArray, defers := [] } W := by
  have HSof : Hid (∀ w', Below W.heap.size W w' → (w'.cell? ⟨A, 4, none⟩ = some (.slice (some ⟨b, o, none⟩) n c) ∧ w'.cell? ⟨B, 4, none⟩ = some (.slice (some ⟨b2, o2, none⟩) n2 c2)) ∧ C6 w' b (o + j * 6) x (.slice ax nx cx) ∧ C6 w' b2 (o2 + j * 6) y (.slice ay ny cy)) := fun w' h => ⟨⟨(hA.below h).2.2.2.2.1, (hB.below h).2.2.2.2.1⟩, h1.grow h, h2.grow h⟩
  have hB0 := (Below.refl W.heap.size W).drew
  have hS0 := HSof.out _ hB0
  clear hA hB h1 h2
  refine wp_region_held_drew (S := fun w' => (w'.cell? ⟨A, 4, none⟩ = some (.slice (some ⟨b, o, none⟩) n c) ∧ w'.cell? ⟨B, 4, none⟩ = some (.slice (some ⟨b2, o2, none⟩) n2 c2)) ∧ C6 w' b (o + j * 6) x (.slice ax nx cx) ∧ C6 w' b2 (o2 + j * 6) y (.slice ay ny cy)) (by kernel_rfl) hS0 (fun hHeld => ?_)
  refine wpAnyH_take (i := 0) (v := .pointer (some ⟨A, 4, none⟩)) rfl (by kernel_rfl) (by kernel_rfl) (by kernel_rfl) (fun _ _ _ h => hp _ _ _ _ _ h) (Or.inl ⟨by rfl, ?_⟩) (by assumption) ?_
  · intro w hSw
    (try dsimp only at hSw)
    go_simp
  (try simp only [Act.put, List.getElem_toArray, List.getElem_cons_zero, List.setIfInBounds_toArray, List.set_cons_zero, List.set_cons_succ])
  refine wpAnyH_take (i := 1) (v := .slice (some ⟨b, o, none⟩) n c) rfl (by kernel_rfl) (by kernel_rfl) (by kernel_rfl) (fun _ _ _ h => hp _ _ _ _ _ h) (Or.inl ⟨by rfl, ?_⟩) (by assumption) ?_
  · intro w hSw
    (try dsimp only at hSw)
    go_simp
  (try simp only [Act.put, List.getElem_toArray, List.getElem_cons_zero, List.getElem_cons_succ, List.setIfInBounds_toArray, List.set_cons_zero, List.set_cons_succ])
  refine wpAnyH_take (i := 2) (v := .int .i64 (j : Nat)) rfl (by kernel_rfl) (by kernel_rfl) (by kernel_rfl) (fun _ _ _ h => hp _ _ _ _ _ h) (Or.inl ⟨by rfl, ?_⟩) (by assumption) ?_
  · intro w hSw
    (try dsimp only at hSw)
    go_simp
  (try simp only [Act.put, List.getElem_toArray, List.getElem_cons_zero, List.getElem_cons_succ, List.setIfInBounds_toArray, List.set_cons_zero, List.set_cons_succ])
  refine wpAnyH_take (i := 3) (v := .pointer (some ⟨b, o + j * 6, none⟩)) rfl (by kernel_rfl) (by kernel_rfl) (by kernel_rfl) (fun _ _ _ h => hp _ _ _ _ _ h) (Or.inl ⟨by rfl, ?_⟩) (by assumption) ?_
  · intro w hSw
    (try dsimp only at hSw)
    go_simp
  (try simp only [Act.put, List.getElem_toArray, List.getElem_cons_zero, List.getElem_cons_succ, List.setIfInBounds_toArray, List.set_cons_zero, List.set_cons_succ])
  refine wpAnyH_take (i := 4) (v := valV x ax nx cx) rfl (by kernel_rfl) (by kernel_rfl) (by kernel_rfl) (fun _ _ _ h => hp _ _ _ _ _ h) (Or.inl ⟨by rfl, ?_⟩) (by assumption) ?_
  · intro w hSw
    (try dsimp only at hSw)
    go_simp
  (try simp only [Act.put, List.getElem_toArray, List.getElem_cons_zero, List.getElem_cons_succ, List.setIfInBounds_toArray, List.set_cons_zero, List.set_cons_succ])
  refine wpAnyH_take (i := 5) (v := .pointer (some ⟨B, 4, none⟩)) rfl (by kernel_rfl) (by kernel_rfl) (by kernel_rfl) (fun _ _ _ h => hp _ _ _ _ _ h) (Or.inl ⟨by rfl, ?_⟩) (by assumption) ?_
  · intro w hSw
    (try dsimp only at hSw)
    go_simp
  (try simp only [Act.put, List.getElem_toArray, List.getElem_cons_zero, List.getElem_cons_succ, List.setIfInBounds_toArray, List.set_cons_zero, List.set_cons_succ])
  refine wpAnyH_take (i := 6) (v := .slice (some ⟨b2, o2, none⟩) n2 c2) rfl (by kernel_rfl) (by kernel_rfl) (by kernel_rfl) (fun _ _ _ h => hp _ _ _ _ _ h) (Or.inl ⟨by rfl, ?_⟩) (by assumption) ?_
  · intro w hSw
    (try dsimp only at hSw)
    go_simp
  (try simp only [Act.put, List.getElem_toArray, List.getElem_cons_zero, List.getElem_cons_succ, List.setIfInBounds_toArray, List.set_cons_zero, List.set_cons_succ])
  refine wpAnyH_take (i := 7) (v := .int .i64 (j : Nat)) rfl (by kernel_rfl) (by kernel_rfl) (by kernel_rfl) (fun _ _ _ h => hp _ _ _ _ _ h) (Or.inl ⟨by rfl, ?_⟩) (by assumption) ?_
  · intro w hSw
    (try dsimp only at hSw)
    go_simp
  (try simp only [Act.put, List.getElem_toArray, List.getElem_cons_zero, List.getElem_cons_succ, List.setIfInBounds_toArray, List.set_cons_zero, List.set_cons_succ])
  refine wpAnyH_take (i := 8) (v := .pointer (some ⟨b2, o2 + j * 6, none⟩)) rfl (by kernel_rfl) (by kernel_rfl) (by kernel_rfl) (fun _ _ _ h => hp _ _ _ _ _ h) (Or.inl ⟨by rfl, ?_⟩) (by assumption) ?_
  · intro w hSw
    (try dsimp only at hSw)
    go_simp
  (try simp only [Act.put, List.getElem_toArray, List.getElem_cons_zero, List.getElem_cons_succ, List.setIfInBounds_toArray, List.set_cons_zero, List.set_cons_succ])
  refine wpAnyH_take (i := 9) (v := valV y ay ny cy) rfl (by kernel_rfl) (by kernel_rfl) (by kernel_rfl) (fun _ _ _ h => hp _ _ _ _ _ h) (Or.inl ⟨by rfl, ?_⟩) (by assumption) ?_
  · intro w hSw
    (try dsimp only at hSw)
    go_simp
  (try simp only [Act.put, List.getElem_toArray, List.getElem_cons_zero, List.getElem_cons_succ, List.setIfInBounds_toArray, List.set_cons_zero, List.set_cons_succ])
  refine wpAnyH_ready (rs := [10]) (by kernel_rfl) (by simp) ?_
  refine AllReadyH.cons rfl (fun K hK => ?_) AllReadyH.nil
  go_simp
  refine (hcall _ hB0).mono ?_
  rintro r w1 ⟨rfl, hb1⟩
  have hB1 := hB0.trans (hb1.mono hB0.size)
  go_wp2_with fail
  refine hK.out _ _ (HSof.out _ hB1) (fun hHeld => ?_)
  clear hK K hb1 hB0 hcall
  refine wpAnyH_take (i := 11) (v := .int .i64 V) rfl (by kernel_rfl) (by kernel_rfl) (by kernel_rfl) (fun _ _ _ h => hp _ _ _ _ _ h) (Or.inl ⟨by rfl, ?_⟩) (by assumption) ?_
  · intro w hSw
    (try dsimp only at hSw)
    go_simp
  (try simp only [Act.put, List.getElem_toArray, List.getElem_cons_zero, List.getElem_cons_succ, List.setIfInBounds_toArray, List.set_cons_zero, List.set_cons_succ])
  refine wpAnyH_done (by kernel_rfl) ?_ _
  exact h_ _ _ _ _ _ _ _ _ _ _ _ _ hB1
end Go.Proofs.Ytalncebnahlmdaa
