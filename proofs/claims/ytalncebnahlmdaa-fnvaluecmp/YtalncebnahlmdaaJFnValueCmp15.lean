/- My own texts, joined: Up Vq Na Nb Nc Ne DecD DecE. -/
import Derived.Test.YtalncebnahlmdaaJFnValueCmp12
import Derived.Test.YtalncebnahlmdaaJFnValueCmp14
import Derived.Test.YtalncebnahlmdaaJFnValueCmp9
import Derived.Deep.QuietTactic
import Derived.BigQuiet
/- A copy of a value, by the specification: l13Copy. -/
namespace Go.Proofs.Ytalncebnahlmdaa
open Go.RowKit
attribute [local go_sem] cell_alloc_is frozen_alloc_is
theorem gr_setCell {j o : Nat} (w : World) (u : Value) : w.grownBy (w.setCell ⟨j, o, none⟩ u) (some j) := by
  refine ⟨?_, ?_, ?_, by simp [World.setCell], fun k _ hk => heap_setCell_other _ _ _ _ (fun e => hk (by rw [e]))⟩ <;> rfl
theorem gr_put6 {j o : Nat} (w : World) (v0 v1 v2 v3 v4 v5 : Value) : w.grownBy (put6 w j o v0 v1 v2 v3 v4 v5) (some j) :=
  gr_trans (gr_trans (gr_trans (gr_trans (gr_trans (gr_setCell w v0) (gr_setCell _ v1)) (gr_setCell _ v2)) (gr_setCell _ v3)) (gr_setCell _ v4)) (gr_setCell _ v5)
theorem Otr.of_grown {b : Nat} {r : Option Nat} {w w' : World} (h : w.grownBy w' r) : Otr b r w w' := ⟨h.size, fun x h1 _ h3 => h.block x h1 h3⟩
theorem own_grown {w w' : World} {r : Option Nat} {base : Nat} {e : TypeId} {size : Nat} {v : Value} {n : Nat} {xs : List Value} (h : w.ownsRow base e size v n xs) (hg : w.grownBy w' r) (hne : ∀ g, v.ownBlock = some g → some g ≠ r) : w'.ownsRow base e size v n xs := by
  obtain ⟨q1, q2⟩ := h
  refine ⟨q1, ?_⟩
  rcases q2 with q2 | ⟨g, cap, cur, rfl, e2, e3, e4⟩
  · exact .inl q2
  · exact .inr ⟨g, cap, cur, rfl, e2, by rw [hg.block g (Array.getElem?_eq_some_iff.1 e3).1 (hne g rfl)]; exact e3, e4⟩
theorem OwnS.more {B0 xb o : Nat} {w ws : World} {h h1 : Hd} {a a' ag : Option Addr} {c c' cg : Nat} {F G : Vo} {u : Value} (hv : OwnS B0 w h a c F) (hxw : xb < w.heap.size) (hB0 : B0 ≤ w.heap.size)
    (hxF : F.Blk (fun x => ¬ x = xb)) (hxa : blkOf a ≠ some xb) (hxn : blkOf h.na ≠ some xb) (hO : w.grownBy ws (blkOf a)) (hg : OwnS w.heap.size ws h1 ag cg G)
    (hown : ws.ownsRow B0 28 6 (.slice a' (F.len + 1) c') (F.len + 1) (F.app (oneV h1 ag cg G)).cells)
    (hob : blkOf a' = blkOf a ∨ ∃ g, blkOf a' = some g ∧ w.heap.size ≤ g ∧ (oneV h1 ag cg G).Blk (fun x => x < g)) :
    OwnS B0 (ws.setCell ⟨xb, o, none⟩ u) h a' c' (F.app (oneV h1 ag cg G)) ∧ (F.app (oneV h1 ag cg G)).Blk (fun x => ¬ x = xb) ∧ blkOf a' ≠ some xb := by
  obtain ⟨⟨ht, hs⟩, h6, h1', hk, hB⟩ := hv
  have hS := gr_setCell (j := xb) (o := o) ws u
  have hg2 := hg.grown hS (fun g hg => by cases hg; omega)
  have el : (F.app (oneV h1 ag cg G)).len = F.len + 1 := Vo.app_len _ _
  have hz := hO.size
  have hzs := hS.size
  have hxa' : blkOf a' ≠ some xb := by
    rcases hob with hob | ⟨g, hob, hge, _⟩
    · rw [hob]; exact hxa
    · rw [hob]; intro e; cases e; omega
  have ha6 : ∀ x, blkOf a = some x → x < w.heap.size := fun x hx => (h6.lt x (by rw [ownBlock_blkOf]; exact hx)).2
  have hn6 : ∀ x, blkOf h.na = some x → x < w.heap.size := fun x hx => (h1'.lt x (by rw [ownBlock_blkOf]; exact hx)).2
  have hOt : Otr w.heap.size (blkOf a) w ws := Otr.of_grown hO
  have hSt : Otr w.heap.size (some xb) ws (ws.setCell ⟨xb, o, none⟩ u) := Otr.of_grown hS
  have hb4 : F.Blk (fun x => ¬ x = w.heap.size ∧ some x ≠ blkOf a) := hB.mono fun x hx => ⟨by omega, hx.2.1⟩
  have hb3 : F.Blk (fun x => ¬ x = w.heap.size ∧ some x ≠ some xb) := (hB.and hxF).mono fun x hx => ⟨by have := hx.1.1.2; omega, fun e => hx.2 (Option.some.inj e)⟩
  have gblk := hg.blk
  have gone := hg2.one
  have hapart : ∀ g, blkOf h.na = some g → some g ≠ blkOf a := fun g hg e => own_apart h6 h1' (by decide) (g := g) (by rw [ownBlock_blkOf]; exact e.symm) (by rw [ownBlock_blkOf]; exact hg)
  refine ⟨⟨⟨ht, hs⟩, ?_, ?_, ⟨?_, ?_, ?_⟩, ?_⟩, ?_, hxa'⟩
  · rw [el]
    exact own_set hown (fun g hg e => hxa' (by rw [← ownBlock_blkOf]; rw [hg, e])) u
  · exact own_grown (own_grown h1' hO (fun g hg => hapart g (by rw [← ownBlock_blkOf]; exact hg))) hS (fun g hg e => hxn (by rw [← ownBlock_blkOf]; rw [hg, e]))
  · exact Vo.app_kin (hSt.kin hb3 (hOt.kin hb4 hk.1)) gone.1
  · exact Vo.app_cl (hSt.cl hb3 (hOt.cl hb4 hk.2.1)) gone.2
  · exact Vo.sep_app (P := fun x => x < w.heap.size) hk.2.2 hg.sep (hB.mono fun x hx => hx.1.2) (gblk.mono fun x hx => by omega)
  · have p1 : F.Blk (fun x => (B0 ≤ x ∧ x < (ws.setCell ⟨xb, o, none⟩ u).heap.size) ∧ some x ≠ blkOf a' ∧ some x ≠ blkOf h.na) := by
      refine hB.mono fun x hx => ⟨⟨hx.1.1, by omega⟩, fun e => ?_, hx.2.2⟩
      rcases hob with hob | ⟨g, hob, hge, _⟩
      · exact hx.2.1 (e.trans hob)
      · rw [hob] at e; cases e; omega
    have hna : ∀ x, w.heap.size ≤ x → some x ≠ blkOf h.na := fun x hx e => by have := hn6 x e.symm; omega
    refine Vo.app_blk p1 ?_
    rcases hob with hob | ⟨g, hob, hge, hlt⟩
    · refine gblk.mono fun x hx => ⟨⟨by omega, by omega⟩, fun e => ?_, hna x hx.1⟩
      rw [hob] at e
      have := ha6 x e.symm
      omega
    · refine (gblk.and hlt).mono fun x hx => ⟨⟨by omega, by omega⟩, fun e => ?_, hna x hx.1.1⟩
      rw [hob] at e
      cases e
      exact Nat.lt_irrefl _ hx.2
  · exact Vo.app_blk hxF (gblk.mono fun x hx => by omega)
theorem Vo.take_next : ∀ {F : Vo} {k : Nat}, k < F.len → F.take (k + 1) = (F.take k).app (oneV (F.hdAt k) (F.addrAt k) (F.capAt k) (F.kidsAt k)) := by
  intro F
  induction F with
  | nil => intro k h; exact absurd h (Nat.not_lt_zero _)
  | cons h a c kids next _ ih =>
    intro k hk
    cases k with
    | zero => show Vo.cons h a c kids (next.take 0) = Vo.cons h a c kids .nil; cases next <;> rfl
    | succ k => show Vo.cons h a c kids (next.take (k + 1)) = Vo.cons h a c kids ((next.take k).app _); rw [ih (show k < next.len from Nat.lt_of_succ_lt_succ hk)]; rfl
set_option maxRecDepth 100000 in
set_option maxHeartbeats 2000000 in
theorem l13Copy_step (N : Nat) (H : CopyC N) : CopyC (N + 1) := by
  intro h a c F w hF hF2 hfw hnl hin hl hc hh
  obtain ⟨W0, hW0⟩ : ∃ W0, W0 = (w.alloc (.cells #[.int .i64 h.k, .int .i64 h.m, .int .i64 h.e, .string h.t, .slice a F.len c, .slice h.na h.ns.length h.nc] 28)).alloc (.cells #[.int .i64 0, .int .i64 0, .int .i64 0, .string ⟨#[]⟩, .slice none 0 0, .slice none 0 0] 28) := ⟨_, rfl⟩
  have hB0 : Below w.heap.size w W0 := by subst hW0; exact (by (repeat' (first | assumption | exact Below.refl _ _ | refine Below.alloc ?_ ?_ _ | refine Below.setCell ?_ ?_ _ | refine Below.drew ?_ | refine below_drewN ?_ _)) <;> (first | omega | (simp <;> omega)))
  have HSZ : Hid (W0.heap.size = w.heap.size + 1 + 1) := by unfold Hid; subst hW0; simp
  have A0 : Row W0 w.heap.size (six h a F.len c) := by
    subst hW0
    exact (Row.new w _ _).below ((Below.refl _ _).alloc (Nat.le_refl _) _) (by simp)
  have R0 : Row W0 (w.heap.size + 1) zero6 := by
    subst hW0
    have := Row.new (w.alloc (.cells #[.int .i64 h.k, .int .i64 h.m, .int .i64 h.e, .string h.t, .slice a F.len c, .slice h.na h.ns.length h.nc] 28)) zero6 28
    rw [World.size_alloc] at this
    exact this
  have HC0 : Hid (Cells6 W0 w.heap.size 0 h (.slice a F.len c)) := ⟨(A0 0 _ rfl).1, (A0 1 _ rfl).1, (A0 2 _ rfl).1, (A0 3 _ rfl).1, (A0 4 _ rfl).1, (A0 5 _ rfl).1⟩
  have HL0 : Hid (Lies W0 h.na (texts h.ns)) := hh.1.lies.1.grow hB0
  have hlen := F.len_le
  go_enter Try.func30, Try.ntmps30
  go_wp2_with fail
  rw [← hW0]
  clear hW0
  refine uc1 HC0.out HL0.out hnl (fun _ d _ _ _ h => by cases d <;> exact h) ?_
  intro w1 xb na nc v5 v6 v7 v8 v9 v10 v11 v12 v13 v14 v15 hb1 hxb hX hown hne
  have hB1 := hB0.trans (hb1.mono hB0.size)
  have A1 := A0.below hb1 A0.lt
  have R1 := R0.below hb1 R0.lt
  have hX1 : Row w1 xb (six (Hd.mk h.k h.m h.e h.t na nc h.ns) none Vo.nil.len 0) := hX
  have S1 : OwnS W0.heap.size w1 (Hd.mk h.k h.m h.e h.t na nc h.ns) none 0 .nil := ⟨⟨hh.2.2, hh.1.lies.2⟩, World.ownsRow_nil _ _ _ _, hown, ⟨trivial, trivial, trivial⟩, trivial⟩
  clear hB0 A0 R0 hX hown HC0 HL0 hb1
  go_wp2_with fail
  have hxl := hX1.lt
  go_loopw [4] (fun i wr => ∃ (k : Nat) (FX : Vo) (ax : Option Addr) (cx : Nat), i = .int .i64 k ∧ k ≤ F.len ∧ (Below w.heap.size w wr ∧ Row wr w.heap.size (six h a F.len c) ∧ Row wr (w.heap.size + 1) zero6 ∧ Row wr xb (six (Hd.mk h.k h.m h.e h.t na nc h.ns) ax FX.len cx) ∧ OwnS W0.heap.size wr (Hd.mk h.k h.m h.e h.t na nc h.ns) ax cx FX ∧ FX.Blk (fun x => ¬ x = xb) ∧ blkOf ax ≠ some xb ∧ FX.alike (F.take k))) (fun i _ => F.len - (intOf i).toNat)
  case atStart => exact ⟨0, .nil, none, 0, rfl, Nat.zero_le _, hB1, A1, R1, hX1, S1, trivial, (fun e => by cases e), by cases F <;> trivial⟩
  case round =>
    clear hB1 A1 R1 hX1 S1 hxl
    obtain ⟨k, FX, ax, cx, rfl, hk, hB, A, R, X, S, hfx, hax, hal⟩ := hrel
    by_cases hk2 : k < F.len
    · have hlt : (k : Int) < (F.len : Int) := by omega
      obtain ⟨b, o, rfl, hFr⟩ := Vo.from_of_len hin hk2
      obtain ⟨hit0, j1, j2, j3⟩ := Vo.from_at hFr hk2
      have hbl := hit0.lt
      obtain ⟨hit, k1, k2, k3⟩ := Vo.from_at (Vo.from_grow hB F b o hFr) hk2
      have hks := Vo.size_at hk2
      obtain ⟨f1, f2⟩ := Vo.few_at hk2 hfw
      have hxl := X.lt
      have hav := (A 4 _ rfl).1
      obtain ⟨x4, x4f⟩ := X 4 _ rfl
      have hfl : FX.len = k := by
        have e1 := Vo.alike_len hal
        have e2 := congrArg Vo.len (Vo.take_drop F k)
        rw [Vo.app_len] at e2
        have e3 : (F.take k).cells.length = k * 6 := by rw [Vo.take_cells, List.length_take, Vo.cells_length]; omega
        rw [Vo.cells_length] at e3
        omega
      have hz := HSZ.out
      have hBs := hB.size
      have hge : ∀ x, blkOf ax = some x → W0.heap.size ≤ x := fun x hx => (S.2.1.lt x (by rw [ownBlock_blkOf]; exact hx)).1
      have HST : Hid (Below w.heap.size w wr ∧ Row wr w.heap.size (six h (some ⟨b, o, none⟩) F.len c) ∧ Row wr (w.heap.size + 1) zero6 ∧ Row wr xb (six (Hd.mk h.k h.m h.e h.t na nc h.ns) ax FX.len cx) ∧ OwnS W0.heap.size wr (Hd.mk h.k h.m h.e h.t na nc h.ns) ax cx FX ∧ FX.Blk (fun x => ¬ x = xb) ∧ blkOf ax ≠ some xb ∧ FX.alike (F.take k)) := ⟨hB, A, R, X, S, hfx, hax, hal⟩
      have HFL : Hid (FX.len = k ∧ FX.len ≤ 1100000) := ⟨hfl, by omega⟩
      have HGE : Hid (∀ x, blkOf ax = some x → W0.heap.size ≤ x) := hge
      have HTK : Hid (F.take (k + 1) = (F.take k).app (oneV (F.hdAt k) (F.addrAt k) (F.capAt k) (F.kidsAt k))) := Vo.take_next hk2
      have HU : Hid ((F.kidsAt k).size < N ∧ (F.kidsAt k).size ≤ 1100000) := ⟨by omega, by omega⟩
      have hBle : W0.heap.size ≤ wr.heap.size := by omega
      clear hfl hge hz hBs hB A R X S hfx hax hal hit0 j1 j2 j3 hFr hks hlen
      go_wp2_with fail
      refine uc5 (W := wr) (B0 := W0.heap.size) (m := FX.len) (FX := FX) (FK := F.kidsAt k) (hk := F.hdAt k) (io := o) (ib := b) H HU.out.1 HU.out.2 f2 f1 hav hk2 hit k1 k2 k3 (by have := HSZ.out; omega) (by have := HSZ.out; omega) x4 x4f HST.out.2.2.2.2.1.2.1 HST.out.2.2.2.2.2.2.1 (fun e => by have := HGE.out _ e; have := HSZ.out; omega) (fun e => by have := HGE.out _ e; have := HSZ.out; omega) hBle HFL.out.2 (fun _ d _ _ _ h => by cases d <;> exact h) ?_
      intro ws v' h1 ag cg G v23 v24 v25 v26 v27 v28 v29 v30 v31 v33 hgr hsm hga hG hownN hobN
      obtain ⟨g, c', rfl, _, _⟩ := hownN.form (by omega)
      obtain ⟨hB, A, R, X, S, hfx, hax, hal⟩ := HST.out
      have hob2 : blkOf (some (⟨g, 0, none⟩ : Addr)) = blkOf ax ∨ ∃ g', blkOf (some (⟨g, 0, none⟩ : Addr)) = some g' ∧ wr.heap.size ≤ g' ∧ (oneV h1 ag cg G).Blk (fun x => x < g') := hobN
      obtain ⟨S2, hfx2, hax2⟩ := OwnS.more (xb := xb) (o := 4) (u := .slice (some ⟨g, 0, none⟩) (FX.len + 1) c') S X.lt hBle hfx hax hne hgr hG hownN hob2
      have A2 := (row_grown A hgr (fun e => by have := HGE.out _ e; have := HSZ.out; omega)).setOther (j := xb) (by have := HSZ.out; omega) 4 (.slice (some ⟨g, 0, none⟩) (FX.len + 1) c')
      have R2 := (row_grown R hgr (fun e => by have := HGE.out _ e; have := HSZ.out; omega)).setOther (j := xb) (by have := HSZ.out; omega) 4 (.slice (some ⟨g, 0, none⟩) (FX.len + 1) c')
      have X2 := (row_grown X hgr hax).set (i := 4) (by show 4 < 6; omega) (.slice (some ⟨g, 0, none⟩) (FX.len + 1) c')
      have hB2 : Below w.heap.size w (ws.setCell ⟨xb, 4, none⟩ (.slice (some ⟨g, 0, none⟩) (FX.len + 1) c')) := (hB.grown hgr hB.size (fun x hx => by have := HGE.out _ hx; have := HSZ.out; omega)).setCell (p := ⟨xb, 4, none⟩) (by show _ ≤ xb; have := HSZ.out; omega) _
      have hal2 : (FX.app (oneV h1 ag cg G)).alike (F.take (k + 1)) := by rw [HTK.out]; exact Vo.app_alike hal ⟨hsm, hga, trivial⟩
      have el : (FX.app (oneV h1 ag cg G)).len = FX.len + 1 := Vo.app_len _ _
      generalize ws.setCell ⟨xb, 4, none⟩ (.slice (some ⟨g, 0, none⟩) (FX.len + 1) c') = wn at *
      have HN : Hid (Below w.heap.size w wn ∧ Row wn w.heap.size (six h (some ⟨b, o, none⟩) F.len c) ∧ Row wn (w.heap.size + 1) zero6 ∧ Row wn xb (six (Hd.mk h.k h.m h.e h.t na nc h.ns) (some ⟨g, 0, none⟩) (FX.app (oneV h1 ag cg G)).len c') ∧ OwnS W0.heap.size wn (Hd.mk h.k h.m h.e h.t na nc h.ns) (some ⟨g, 0, none⟩) c' (FX.app (oneV h1 ag cg G)) ∧ (FX.app (oneV h1 ag cg G)).Blk (fun x => ¬ x = xb) ∧ blkOf (some (⟨g, 0, none⟩ : Addr)) ≠ some xb ∧ (FX.app (oneV h1 ag cg G)).alike (F.take (k + 1))) := ⟨hB2, A2, R2, by rw [el]; exact X2, S2, hfx2, hax2, hal2⟩
      have hl3 : F.len ≤ 1100000 := Nat.le_trans F.len_le hF2
      clear hB A R X S hfx hax hal hob2 S2 hfx2 hax2 A2 R2 X2 hB2 hal2 el hgr hsm hga hG hownN hobN hit k1 k2 k3 hav x4 x4f hxl
      go_wp2_with fail
      refine ⟨?_, ?_⟩
      · exact ⟨k + 1, FX.app (oneV h1 ag cg G), some ⟨g, 0, none⟩, c', by go_num, by omega, HN.out⟩
      · simp [intOf]; omega
    · have hke : F.len = k := by omega
      have hlt : ¬ (k : Int) < (F.len : Int) := by omega
      have hav := (A 4 _ rfl).1
      obtain ⟨r0, g0⟩ := R 0 _ rfl
      obtain ⟨r1, g1⟩ := R 1 _ rfl
      obtain ⟨r2, g2⟩ := R 2 _ rfl
      obtain ⟨r3, g3⟩ := R 3 _ rfl
      obtain ⟨r4, g4⟩ := R 4 _ rfl
      obtain ⟨r5, g5⟩ := R 5 _ rfl
      have x0 := (X 0 _ rfl).1
      have x1 := (X 1 _ rfl).1
      have x2 := (X 2 _ rfl).1
      have x3 := (X 3 _ rfl).1
      have x4 := (X 4 _ rfl).1
      have x5 := (X 5 _ rfl).1
      have HP6 := Row.put6 (v0 := .int .i64 h.k) (v1 := .int .i64 h.m) (v2 := .int .i64 h.e) (v3 := .string h.t) (v4 := .slice ax FX.len cx) (v5 := .slice na h.ns.length nc) R
      have hgp := gr_put6 (j := w.heap.size + 1) (o := 0) wr (.int .i64 h.k) (.int .i64 h.m) (.int .i64 h.e) (.string h.t) (.slice ax FX.len cx) (.slice na h.ns.length nc)
      have S2 := (S.grown hgp (fun g hg => by cases hg; have := HSZ.out; omega)).mono (B1 := w.heap.size) (by have := HSZ.out; omega)
      have hB2 : Below w.heap.size w (put6 wr (w.heap.size + 1) 0 (.int .i64 h.k) (.int .i64 h.m) (.int .i64 h.e) (.string h.t) (.slice ax FX.len cx) (.slice na h.ns.length nc)) := put6_below hB (by omega) _ _ _ _ _ _
      have hal2 : FX.alike F := by rw [take_all hke] at hal; exact hal
      have HF : Hid (OwnS w.heap.size (put6 wr (w.heap.size + 1) 0 (.int .i64 h.k) (.int .i64 h.m) (.int .i64 h.e) (.string h.t) (.slice ax FX.len cx) (.slice na h.ns.length nc)) (Hd.mk h.k h.m h.e h.t na nc h.ns) ax cx FX ∧ Below w.heap.size w (put6 wr (w.heap.size + 1) 0 (.int .i64 h.k) (.int .i64 h.m) (.int .i64 h.e) (.string h.t) (.slice ax FX.len cx) (.slice na h.ns.length nc)) ∧ FX.alike F) := ⟨S2, hB2, hal2⟩
      have HKE : Hid (F.len = k) := hke
      clear hB A R X S hfx hax hal hgp S2 hB2 hal2 hke hk hk2
      go_wp2_with fail
      show bodyPost Try.prog Try.f30 _ Exit.ret _ (put6 wr (w.heap.size + 1) 0 (.int .i64 h.k) (.int .i64 h.m) (.int .i64 h.e) (.string h.t) (.slice ax FX.len cx) (.slice na h.ns.length nc))
      generalize put6 wr (w.heap.size + 1) 0 (.int .i64 h.k) (.int .i64 h.m) (.int .i64 h.e) (.string h.t) (.slice ax FX.len cx) (.slice na h.ns.length nc) = W6 at *
      have y0 := (HP6 0 _ rfl).1
      have y1 := (HP6 1 _ rfl).1
      have y2 := (HP6 2 _ rfl).1
      have y3 := (HP6 3 _ rfl).1
      have y4 := (HP6 4 _ rfl).1
      have y5 := (HP6 5 _ rfl).1
      obtain ⟨z1, z2, z3⟩ := HF.out
      refine bodyPost_ret (v := valV (Hd.mk h.k h.m h.e h.t na nc h.ns) ax FX.len cx) (by simp [results, Try.results30, go_sem, y0, y1, y2, y3, y4, y5]) rfl ?_
      exact ⟨⟨(Hd.mk h.k h.m h.e h.t na nc h.ns), ax, cx, FX, rfl, ⟨⟨rfl, rfl, rfl, rfl⟩, rfl⟩, z3, z1⟩, z2⟩
theorem l13Copy_all (N : Nat) : CopyC N := by
  induction N with
  | zero => intro h a c F w hF; omega
  | succ N ih => exact l13Copy_step N ih
end Go.Proofs.Ytalncebnahlmdaa
/- Drawn values: a copy with one item in another one's place, or without one. -/
namespace Go.Proofs.Ytalncebnahlmdaa
open Go.RowKit
theorem near_set {B1 b g k M cx cg : Nat} {w ws : World} {hx h1 : Hd} {ag : Option Addr} {FX G : Vo} (hv : OwnS B1 w hx (some ⟨g, 0, none⟩) cx FX) (hb : b < B1) (hO : Otb b w ws) (hk : k < FX.len)
    (gone : (oneV h1 ag cg G).Kin ws ∧ (oneV h1 ag cg G).Cl ws) (gblk : (oneV h1 ag cg G).Blk (fun x => w.heap.size ≤ x ∧ x < ws.heap.size)) (gfew : (oneV h1 ag cg G).few 4) (gnob : (oneV h1 ag cg G).nob)
    (hM : (setV (oneV h1 ag cg G) FX k).size ≤ M) (hwt : FX.wt + (oneV h1 ag cg G).wt ≤ 60 * M) (hfew : fw hx FX) (hn : hx.ns.length ≤ 4) (ht : hx.t.size ≤ 7) (hs : ∀ s ∈ hx.ns, s.size ≤ 10) :
    AnyS B1 M (put6 ws g (k * 6) (.int .i64 h1.k) (.int .i64 h1.m) (.int .i64 h1.e) (.string h1.t) (.slice ag G.len cg) (.slice h1.na h1.ns.length h1.nc)) hx (some ⟨g, 0, none⟩) cx (setV (oneV h1 ag cg G) FX k) := by
  obtain ⟨_, h6, h1', hkk, hB⟩ := hv
  have hg6 := h6.lt g rfl
  have h6s := hO.own h6 hb
  have h1s := hO.own h1' hb
  have hOt := hO.otr none
  have hb0 : FX.Blk (fun x => ¬ x = b ∧ some x ≠ (none : Option Nat)) := hB.mono fun x hx => ⟨by omega, fun e => by cases e⟩
  have hkin := hOt.kin hb0 hkk.1
  have hcl := hOt.cl hb0 hkk.2.1
  have hP := gr_put6 (j := g) (o := k * 6) ws (.int .i64 h1.k) (.int .i64 h1.m) (.int .i64 h1.e) (.string h1.t) (.slice ag G.len cg) (.slice h1.na h1.ns.length h1.nc)
  have hPt : Otr ws.heap.size (some g) ws _ := Otr.of_grown hP
  have hzO := hO.1
  have hbF : FX.Blk (fun x => ¬ x = ws.heap.size ∧ some x ≠ some g) := hB.mono fun x hx => ⟨by omega, fun e => hx.2.1 e⟩
  have hbG : (oneV h1 ag cg G).Blk (fun x => ¬ x = ws.heap.size ∧ some x ≠ some g) := gblk.mono fun x hx => ⟨by omega, fun e => by have := Option.some.inj e; omega⟩
  have own2 := own_item h6s hk (.int .i64 h1.k) (.int .i64 h1.m) (.int .i64 h1.e) (.string h1.t) (.slice ag G.len cg) (.slice h1.na h1.ns.length h1.nc)
  have hlen := setV_len (X := oneV h1 ag cg G) (F := FX) (k := k) rfl hk
  have hsz : ws.heap.size ≤ (put6 ws g (k * 6) (.int .i64 h1.k) (.int .i64 h1.m) (.int .i64 h1.e) (.string h1.t) (.slice ag G.len cg) (.slice h1.na h1.ns.length h1.nc)).heap.size := hP.size
  have own3 : (put6 ws g (k * 6) (.int .i64 h1.k) (.int .i64 h1.m) (.int .i64 h1.e) (.string h1.t) (.slice ag G.len cg) (.slice h1.na h1.ns.length h1.nc)).ownsRow B1 28 6 (.slice (some ⟨g, 0, none⟩) (setV (oneV h1 ag cg G) FX k).len cx) (setV (oneV h1 ag cg G) FX k).len (setV (oneV h1 ag cg G) FX k).cells := by
    rw [hlen, setV_cells, Vo.cells_oneV]; exact own2
  have own4 := own_grown h1s hP (fun x hx e => own_apart h6 h1' (by decide) (g := g) rfl (by rw [hx]; exact e))
  have hkin2 := setV_kin (hPt.kin hbG gone.1) (hPt.kin hbF hkin) hk
  have hcl2 := setV_cl (hPt.cl hbG gone.2) (hPt.cl hbF hcl) hk
  obtain ⟨a', c', e6, hl6, hc6, h06⟩ := own_lies own3
  cases e6
  refine ⟨⟨Vo.kin_one.2 ⟨hl6.in hkin2, hc6, hin_of own4 ht hs⟩, ⟨own_pl own3, hcl2, trivial⟩⟩, ⟨?_, ?_, setV_blk (gblk.mono fun x hx => ⟨by omega, by omega⟩) (hB.mono fun x hx => ⟨hx.1.1, by omega⟩) hk, trivial⟩, ⟨hM, Nat.le_trans (setV_wt hk) hwt, ⟨setV_few gfew hfew.1 hk, fun e => (by rw [hlen]; exact hfew.2.1 e), setV_nob gnob hfew.2.2 hk⟩⟩, hn, ht, hs⟩
  · obtain ⟨a2, c2, e2, _, _, h0⟩ := own_lies own4
    rcases h0 with h0 | ⟨x, e1, e3, e4⟩
    · exact .inl (List.eq_nil_of_length_eq_zero h0)
    · refine .inr ⟨x, 0, ?_, e4, (own4.lt x e3).2⟩
      cases e2; exact e1
  · exact .inr ⟨g, 0, rfl, hg6.1, by omega⟩
/-- any value of which both lists are owned -/
theorem any_of_own {B0 M : Nat} {w : World} {h : Hd} {a : Option Addr} {c : Nat} {F : Vo} (h6 : w.ownsRow B0 28 6 (.slice a F.len c) F.len F.cells) (h1 : w.ownsRow B0 9 1 (.slice h.na h.ns.length h.nc) h.ns.length (texts h.ns)) (hk : F.Kin w) (hcl : F.Cl w)
    (hB : F.Blk (fun x => B0 ≤ x ∧ x < w.heap.size)) (hM : F.size ≤ M) (hwt : F.wt ≤ 60 * M) (hfew : fw h F) (hn : h.ns.length ≤ 4) (ht : h.t.size ≤ 7) (hs : ∀ s ∈ h.ns, s.size ≤ 10) : AnyS B0 M w h a c F := by
  obtain ⟨a', c', e6, hl6, hc6, h06⟩ := own_lies h6
  cases e6
  refine ⟨⟨Vo.kin_one.2 ⟨hl6.in hk, hc6, hin_of h1 ht hs⟩, ⟨own_pl h6, hcl, trivial⟩⟩, ⟨?_, ?_, hB, trivial⟩, ⟨hM, hwt, hfew⟩, hn, ht, hs⟩
  · obtain ⟨a2, c2, e2, _, _, h0⟩ := own_lies h1
    rcases h0 with h0 | ⟨x, e1, e3, e4⟩
    · exact .inl (List.eq_nil_of_length_eq_zero h0)
    · refine .inr ⟨x, 0, ?_, e4, (h1.lt x e3).2⟩
      cases e2; exact e1
  · rcases h06 with h0 | ⟨x, e1, e3, e4⟩
    · left
      cases F with
      | nil => rfl
      | cons h0' a0 c0 k0 n0 => exact absurd h0 (Nat.succ_ne_zero _)
    · exact .inr ⟨x, 0, e1, e4, (h6.lt x e3).2⟩
/-- a list without one of its items -/
def cutV (F : Vo) (k : Nat) : Vo := (F.take k).app (F.drop (k + 1))
theorem cutV_cells (F : Vo) (k : Nat) : (cutV F k).cells = F.cells.take (k * 6) ++ F.cells.drop ((k + 1) * 6) := by
  unfold cutV; rw [Vo.app_cells, Vo.take_cells, Vo.drop_cells]
theorem cutV_set (F : Vo) (k : Nat) : cutV F k = setV .nil F k := rfl
theorem cutV_len {F : Vo} {k : Nat} (hk : k < F.len) : (cutV F k).len = F.len - 1 := by
  have h := congrArg List.length (cutV_cells F k)
  rw [Vo.cells_length, List.length_append, List.length_take, List.length_drop, Vo.cells_length] at h
  omega
end Go.Proofs.Ytalncebnahlmdaa
/- Drawn values: a copy without one of its items; the end of a draw. -/
namespace Go.Proofs.Ytalncebnahlmdaa
open Go.RowKit
theorem alike_wt : ∀ {G F : Vo}, F.alike G → F.wt = G.wt := by
  intro G
  induction G with
  | nil => intro F h; rw [Vo.alike_nil h]
  | cons h a c kids next ih1 ih2 =>
    intro F x
    obtain ⟨h', a', c', kids', next', rfl, h0, h1, h2⟩ := Vo.alike_cons x
    show h'.t.size + kids'.wt + sWt h'.ns + 1 + next'.wt = h.t.size + kids.wt + sWt h.ns + 1 + next.wt
    rw [ih1 h1, ih2 h2, h0.2, h0.1.2.2.2]
theorem alike_few : ∀ {G F : Vo} {N : Nat}, F.alike G → G.few N → F.few N := by
  intro G
  induction G with
  | nil => intro F N h _; rw [Vo.alike_nil h]; trivial
  | cons h a c kids next ih1 ih2 =>
    rintro F N x ⟨y1, y2, y3⟩
    obtain ⟨h', a', c', kids', next', rfl, h0, h1, h2⟩ := Vo.alike_cons x
    exact ⟨by rw [h0.2]; exact y1, ih1 h1 y2, ih2 h2 y3⟩
theorem fw_alike {h g : Hd} {F G : Vo} (s : h.same g) (x : F.alike G) (y : fw g G) : fw h F :=
  ⟨alike_few x y.1, fun e => (by rw [Vo.alike_len x, s.2]; exact y.2.1 (s.1.1.symm.trans e)), Vo.nob_alike x y.2.2⟩
theorem cut_mem {α : Type} {l : List α} {k : Nat} {x : α} (h : x ∈ l.take k ++ l.drop (k + 1)) : x ∈ l := by
  rcases List.mem_append.1 h with h | h
  · exact List.mem_of_mem_take h
  · exact List.mem_of_mem_drop h
theorem cut_len {α : Type} (l : List α) {k : Nat} (h : k < l.length) : (l.take k ++ l.drop (k + 1)).length = l.length - 1 := by
  rw [List.length_append, List.length_take, List.length_drop]; omega
theorem cut_texts (l : List ByteArray) (k : Nat) : texts (l.take k ++ l.drop (k + 1)) = (texts l).take (k * 1) ++ (texts l).drop ((k + 1) * 1) := by
  unfold texts
  rw [List.map_append, List.map_take, List.map_drop, Nat.mul_one, Nat.mul_one]
theorem cutV_size {F : Vo} {k : Nat} (hk : k < F.len) : (cutV F k).size ≤ F.size ∧ (cutV F k).wt ≤ F.wt := by
  rw [cutV_set]
  exact ⟨by have := setV_size (X := .nil) hk; have e : Vo.nil.size = 0 := rfl; omega, setV_wt (X := .nil) hk⟩
theorem cutV_fw {h : Hd} {F : Vo} {k : Nat} {hd : Hd} (hf : fw h F) (hk : k < F.len) (hkk : hd.k = h.k) (hn : h.k = 6 → h.ns.length ≤ hd.ns.length + 1) : fw hd (cutV F k) := by
  refine ⟨?_, fun e => ?_, ?_⟩
  · rw [cutV_set]; exact setV_few (X := .nil) trivial hf.1 hk
  · rw [cutV_len hk]; have := hf.2.1 (hkk ▸ e); have := hn (hkk ▸ e); omega
  · rw [cutV_set]; exact setV_nob (X := .nil) trivial hf.2.2 hk
theorem near_cut {B1 b k M c' : Nat} {w wf : World} {hx hd : Hd} {ax a' : Option Addr} {cx : Nat} {FX : Vo} (hv : OwnS B1 w hx ax cx FX) (hb : b < B1) (hO : Otb b w wf) (hk : k < FX.len)
    (h6 : wf.ownsRow B1 28 6 (.slice a' (cutV FX k).len c') (cutV FX k).len (cutV FX k).cells) (h1 : wf.ownsRow B1 9 1 (.slice hd.na hd.ns.length hd.nc) hd.ns.length (texts hd.ns))
    (hM : FX.size ≤ M) (hwt : FX.wt ≤ 60 * M) (hfw : fw hd (cutV FX k)) (hn : hd.ns.length ≤ 4) (ht : hd.t.size ≤ 7) (hs : ∀ s ∈ hd.ns, s.size ≤ 10) : AnyS B1 M wf hd a' c' (cutV FX k) := by
  obtain ⟨_, _, _, hkk, hB⟩ := hv
  have hOt := hO.otr none
  have hb0 : FX.Blk (fun x => ¬ x = b ∧ some x ≠ (none : Option Nat)) := hB.mono fun x hx => ⟨by omega, fun e => by cases e⟩
  have hkin := hOt.kin hb0 hkk.1
  have hcl := hOt.cl hb0 hkk.2.1
  have hz := hO.1
  obtain ⟨s1, s2⟩ := cutV_size hk
  exact any_of_own h6 h1 (by rw [cutV_set]; exact setV_kin (X := .nil) trivial hkin hk) (by rw [cutV_set]; exact setV_cl (X := .nil) trivial hcl hk) (by rw [cutV_set]; exact setV_blk (X := .nil) trivial (hB.mono fun x hx => by omega) hk) (by omega) (by omega) hfw hn ht hs
theorem own_any {B1 b M : Nat} {w wf : World} {hx : Hd} {ax : Option Addr} {cx : Nat} {FX : Vo} (hv : OwnS B1 w hx ax cx FX) (hb : b < B1) (hO : Otb b w wf) (hM : FX.size ≤ M) (hwt : FX.wt ≤ 60 * M) (hfw : fw hx FX) (hn : hx.ns.length ≤ 4) (ht : hx.t.size ≤ 7) (hs : ∀ s ∈ hx.ns, s.size ≤ 10) : AnyS B1 M wf hx ax cx FX := by
  obtain ⟨_, h6, h1, hkk, hB⟩ := hv
  have hOt := hO.otr none
  have hb0 : FX.Blk (fun x => ¬ x = b ∧ some x ≠ (none : Option Nat)) := hB.mono fun x hx => ⟨by omega, fun e => by cases e⟩
  have hz := hO.1
  exact any_of_own (hO.own h6 hb) (hO.own h1 hb) (hOt.kin hb0 hkk.1) (hOt.cl hb0 hkk.2.1) (hB.mono fun x hx => by omega) hM hwt hfw hn ht hs
theorem wt_at : ∀ {F : Vo} {i : Nat}, i < F.len → (F.hdAt i).t.size + (F.kidsAt i).wt + sWt (F.hdAt i).ns + 1 ≤ F.wt := by
  intro F
  induction F with
  | nil => intro i h; exact absurd h (Nat.not_lt_zero _)
  | cons h a c kids next _ ih =>
    intro i hi
    cases i with
    | zero => show h.t.size + kids.wt + sWt h.ns + 1 ≤ h.t.size + kids.wt + sWt h.ns + 1 + next.wt; omega
    | succ i => have := ih (show i < next.len from Nat.lt_of_succ_lt_succ hi); show (next.hdAt i).t.size + (next.kidsAt i).wt + sWt (next.hdAt i).ns + 1 ≤ h.t.size + kids.wt + sWt h.ns + 1 + next.wt; omega
theorem item_at {w : World} {a : Option Addr} {F : Vo} {k : Nat} (hin : F.In w a) (hk : k < F.len) {g : Nat} (ha : a = some ⟨g, 0, none⟩) : Cells6 w g (k * 6) (F.hdAt k) (.slice (F.addrAt k) (F.kidsAt k).len (F.capAt k)) ∧ (F.kidsAt k).In w (F.addrAt k) ∧ ((F.kidsAt k).len ≤ F.capAt k ∧ F.capAt k ≤ maxLen) ∧ (F.hdAt k).In w := by
  obtain ⟨b, o, e, hFr⟩ := Vo.from_of_len hin hk
  rw [ha] at e
  cases e
  have := Vo.from_at hFr hk
  rw [Nat.zero_add] at this
  exact this
/-- the value that is answered, in its own cells -/
theorem near_end {w0 : World} {B b len cap rb M B0 : Nat} {a : Option Addr} {p : Int} {W ws : World} {h : Hd} {av : Option Addr} {c : Nat} {F : Vo} (hb : b < W.heap.size) (hrb : W.heap.size ≤ rb) (hB0 : rb < B0) (Z : Row ws rb zero6) (R : Rd w0 B b a len cap p ws) (O : Otb b W ws) (S : AnyS B0 M ws h av c F) :
    Hid (AnyS W.heap.size M (put6 ws rb 0 (.int .i64 h.k) (.int .i64 h.m) (.int .i64 h.e) (.string h.t) (.slice av F.len c) (.slice h.na h.ns.length h.nc)) h av c F ∧ Rd w0 B b a len cap p (put6 ws rb 0 (.int .i64 h.k) (.int .i64 h.m) (.int .i64 h.e) (.string h.t) (.slice av F.len c) (.slice h.na h.ns.length h.nc)) ∧ Otb b W (put6 ws rb 0 (.int .i64 h.k) (.int .i64 h.m) (.int .i64 h.e) (.string h.t) (.slice av F.len c) (.slice h.na h.ns.length h.nc)) ∧ Row (put6 ws rb 0 (.int .i64 h.k) (.int .i64 h.m) (.int .i64 h.e) (.string h.t) (.slice av F.len c) (.slice h.na h.ns.length h.nc)) rb (six h av F.len c)) := by
  have HP6 := Row.put6 (v0 := .int .i64 h.k) (v1 := .int .i64 h.m) (v2 := .int .i64 h.e) (v3 := .string h.t) (v4 := .slice av F.len c) (v5 := .slice h.na h.ns.length h.nc) Z
  have HO6 := Otr.put6 b (j := rb) (o := 0) ws (.int .i64 h.k) (.int .i64 h.m) (.int .i64 h.e) (.string h.t) (.slice av F.len c) (.slice h.na h.ns.length h.nc)
  have hb9 := R.base_leU
  have hbe := put6_below (B := W.heap.size) (nb := rb) (o := 0) (Below.refl _ ws) hrb (.int .i64 h.k) (.int .i64 h.m) (.int .i64 h.e) (.string h.t) (.slice av F.len c) (.slice h.na h.ns.length h.nc)
  exact ⟨(S.otr HO6 (by omega) (fun g hg => by cases hg; omega)).mono (by omega) (Nat.le_refl _), R.uptoU hbe hb (by omega), O.upto hbe, HP6⟩
end Go.Proofs.Ytalncebnahlmdaa
/- Drawn values: l14Near. -/
namespace Go.Proofs.Ytalncebnahlmdaa
open Go.RowKit
attribute [local go_sem] cell_alloc_is frozen_alloc_is
set_option maxRecDepth 100000 in
set_option maxHeartbeats 8000000 in
theorem l14Near_step (N : Nat) (H : NearC N) : NearC (N + 1) := by
  intro w0 B b a len cap p W h av c F hF hF2 hfw hwt hnl ht hs hR hp hin hl hc hh
  obtain ⟨W0, hW0⟩ : ∃ W0, W0 = (W.alloc (.cells #[.int .i64 h.k, .int .i64 h.m, .int .i64 h.e, .string h.t, .slice av F.len c, .slice h.na h.ns.length h.nc] 28)).alloc (.cells #[.int .i64 0, .int .i64 0, .int .i64 0, .string ⟨#[]⟩, .slice none 0 0, .slice none 0 0] 28) := ⟨_, rfl⟩
  have hlt := hR.lt
  have hbl := hR.base_leU
  have hB0 : Below W.heap.size W W0 := by subst hW0; exact (by (repeat' (first | assumption | exact Below.refl _ _ | refine Below.alloc ?_ ?_ _ | refine Below.setCell ?_ ?_ _ | refine Below.drew ?_ | refine below_drewN ?_ _)) <;> (first | omega | (simp <;> omega)))
  have HSZ : Hid (W0.heap.size = W.heap.size + 1 + 1) := by unfold Hid; subst hW0; simp
  have O0 : Otb b W W0 := by subst hW0; exact ((Otb.refl b W).alloc _).alloc _
  have A0 : Row W0 W.heap.size (six h av F.len c) := by
    subst hW0
    exact (Row.new W _ _).below ((Below.refl _ _).alloc (Nat.le_refl _) _) (by simp)
  have Z0 : Row W0 (W.heap.size + 1) zero6 := by
    subst hW0
    have := Row.new (W.alloc (.cells #[.int .i64 h.k, .int .i64 h.m, .int .i64 h.e, .string h.t, .slice av F.len c, .slice h.na h.ns.length h.nc] 28)) zero6 28
    rw [World.size_alloc] at this
    exact this
  have R0 := hR.below hB0
  have HC := l13Copy_all (F.size + 1) h av c F W0 (by omega) (by omega) (Vo.few_mono hfw.1 (by omega)) (by omega) (hin.grow hB0) hl hc (hh.grow hB0)
  have HHp : Hid (p + 450 * ((F.size + 1 : Nat) : Int) ≤ 70000) := hp
  have hp69 : p ≤ 69550 := by
    omega
  have hp0 := R0.2.2.2.2.2.1
  clear hin hl hc hh hB0 hR hp
  have y0 := (A0 0 _ rfl).1
  have y1 := (A0 1 _ rfl).1
  have y2 := (A0 2 _ rfl).1
  have y3 := (A0 3 _ rfl).1
  have y4 := (A0 4 _ rfl).1
  have y5 := (A0 5 _ rfl).1
  go_enter Try.func36, Try.ntmps36
  go_wp2_with fail
  rw [← hW0]
  clear hW0
  go_wp2_with fail
  refine HC.mono ?_
  rintro r w1 ⟨⟨hx, ax, cx, FX, rfl, hsm, hal, S1⟩, hb1⟩
  clear HC y0 y1 y2 y3 y4 y5
  have O1 : Otb b W0 w1 := (Otb.refl b W0).below hb1
  have R1 := R0.below hb1
  have Z1 := Z0.below hb1 Z0.lt
  have hz1 : W0.heap.size ≤ w1.heap.size := hb1.size
  clear R0 Z0 A0 hb1
  have hsz := Vo.alike_size hal
  have hwx := alike_wt hal
  have hlx := Vo.alike_len hal
  have hfx := fw_alike hsm hal hfw
  obtain ⟨⟨e1, e2, e3, e4⟩, e5⟩ := hsm
  have HX : Hid ((FX.size = F.size ∧ FX.wt = F.wt ∧ FX.len = F.len) ∧ fw hx FX ∧ hx.ns.length ≤ 4 ∧ hx.t.size ≤ 7 ∧ (∀ s ∈ hx.ns, s.size ≤ 10)) := ⟨⟨hsz, hwx, hlx⟩, hfx, by rw [e5]; exact hnl, by rw [e4]; exact ht, by rw [e5]; exact hs⟩
  clear hsz hwx hlx hfx e1 e2 e3 e4 e5 hal hfw hnl ht hs
  have hlx : FX.len ≤ FX.size := Vo.len_le FX
  have hszx : FX.size ≤ 100 := by have := HX.out.1.1; omega
  have hbW : Below w1.heap.size w1 (w1.alloc (.cells #[.int .i64 hx.k, .int .i64 hx.m, .int .i64 hx.e, .string hx.t, .slice ax FX.len cx, .slice hx.na hx.ns.length hx.nc] 28)) := (Below.refl _ _).alloc (Nat.le_refl _) _
  have X2 : Row (w1.alloc (.cells #[.int .i64 hx.k, .int .i64 hx.m, .int .i64 hx.e, .string hx.t, .slice ax FX.len cx, .slice hx.na hx.ns.length hx.nc] 28)) w1.heap.size (six hx ax FX.len cx) := Row.new w1 _ _
  have Z2 := Z1.below hbW Z1.lt
  have R2 := R1.below hbW
  have O2 : Otb b w1 (w1.alloc (.cells #[.int .i64 hx.k, .int .i64 hx.m, .int .i64 hx.e, .string hx.t, .slice ax FX.len cx, .slice hx.na hx.ns.length hx.nc] 28)) := (Otb.refl b w1).below hbW
  have hsz2 : w1.heap.size < (w1.alloc (.cells #[.int .i64 hx.k, .int .i64 hx.m, .int .i64 hx.e, .string hx.t, .slice ax FX.len cx, .slice hx.na hx.ns.length hx.nc] 28)).heap.size := by simp
  go_wp2_with fail
  generalize w1.alloc (.cells #[.int .i64 hx.k, .int .i64 hx.m, .int .i64 hx.e, .string hx.t, .slice ax FX.len cx, .slice hx.na hx.ns.length hx.nc] 28) = W2 at *
  obtain ⟨xb, hxb⟩ : ∃ xb, w1.heap.size = xb := ⟨_, rfl⟩
  rw [hxb] at X2 hsz2 ⊢
  clear Z1 R1 hbW
  refine (pick_any 4 R2 (by omega) (by omega) (by omega)).mono ?_
  rintro r w3 ⟨⟨v, rfl, v0, v1⟩, s3⟩
  have hxb2 : ¬ xb = b := by have := HSZ.out; omega
  have hrb2 : ¬ W.heap.size + 1 = b := by omega
  have O23 : Otb b W2 w3 := (Otb.refl b W2).stepped s3
  have R3 := R2.step s3
  have X3 : Row w3 xb (six hx ax FX.len cx) := Row.otb O23 hxb2 X2
  have Z3 : Row w3 (W.heap.size + 1) zero6 := Row.otb O23 hrb2 Z2
  have O3 : Otb b w1 w3 := O2.trans O23
  have hsz3 : xb < w3.heap.size := by rw [s3.other.2.2]; exact hsz2
  clear R2 X2 Z2 O2 O23 s3 hsz2
  have hv : (v == 0) = true ∨ (v == 0) = false := by cases (v == 0) <;> simp
  rcases hv with hv | hv
  · have e438 : ((pkD 2 : Nat) : Int) = 438 := by decide
    have hl14 := l14Value_any (w0 := w0) (B := B) (b := b) (a := a) (len := len) (cap := cap) 2 (by omega) (p + 1) w3 R3 (by rw [e438]; omega)
    go_wp2_with fail
    refine hl14.mono ?_
    rintro r w4 ⟨h1, G, ag, cg, p2, rfl, hval, hp2, R4, O34⟩
    clear hl14
    rw [e438] at hp2
    have Z4 := Row.otb O34 hrb2 Z3
    have O4 : Otb b W w4 := (O0.trans O1).trans (O3.trans O34)
    have hg1 := hval.1.1.2.1
    have hg2 := hval.1.1.2.2.1
    have e12 : szD 2 = 12 := by decide
    rw [e12] at hg1
    have S4 : AnyS (W.heap.size + 2) 1000 w4 h1 ag cg G := (hval.any (by omega)).mono (by have := HSZ.out; omega) (by rw [e12]; omega)
    have HG : Hid (G.size ≤ 12 ∧ G.wt ≤ 60 * G.size) := ⟨hg1, hg2⟩
    clear hval hg1 hg2 Z3 X3 O3 O34 R3 S1 O1 O0
    have HE := near_end (rb := W.heap.size + 1) hlt (by omega) (by have := HSZ.out; omega) Z4 R4 O4 S4
    obtain ⟨r0, g0⟩ := Z4 0 _ rfl
    obtain ⟨r1, g1⟩ := Z4 1 _ rfl
    obtain ⟨r2, g2⟩ := Z4 2 _ rfl
    obtain ⟨r3, g3⟩ := Z4 3 _ rfl
    obtain ⟨r4, g4⟩ := Z4 4 _ rfl
    obtain ⟨r5, g5⟩ := Z4 5 _ rfl
    clear Z4 R4 O4 S4
    go_wp2_with fail
    show bodyPost Try.prog Try.f36 _ Exit.ret _ (put6 w4 (W.heap.size + 1) 0 (.int .i64 h1.k) (.int .i64 h1.m) (.int .i64 h1.e) (.string h1.t) (.slice ag G.len cg) (.slice h1.na h1.ns.length h1.nc))
    generalize put6 w4 (W.heap.size + 1) 0 (.int .i64 h1.k) (.int .i64 h1.m) (.int .i64 h1.e) (.string h1.t) (.slice ag G.len cg) (.slice h1.na h1.ns.length h1.nc) = W6 at *
    obtain ⟨z1, z2, z3, z4⟩ := HE.out
    have u0 := (z4 0 _ rfl).1
    have u1 := (z4 1 _ rfl).1
    have u2 := (z4 2 _ rfl).1
    have u3 := (z4 3 _ rfl).1
    have u4 := (z4 4 _ rfl).1
    have u5 := (z4 5 _ rfl).1
    refine bodyPost_ret (v := valV h1 ag G.len cg) (by simp [results, Try.results36, go_sem, u0, u1, u2, u3, u4, u5]) rfl ?_
    exact ⟨h1, G, ag, cg, _, rfl, ⟨z1.mono (Nat.le_refl _) (by omega), by have := HG.out; omega, by have := HG.out; omega⟩, by have := HX.out.1; omega, z2, z3⟩
  · have y4 := (X3 4 _ rfl).1
    by_cases hn : FX.len = 0
    · have hn2 : ((FX.len : Int) == 0) = true := by simp [hn]
      have O4 : Otb b W w3 := (O0.trans O1).trans O3
      have S4 : AnyS W0.heap.size 1000 w3 hx ax cx FX := own_any S1 (by have := HSZ.out; omega) O3 (by omega) (by have := HX.out.1; omega) HX.out.2.1 HX.out.2.2.1 HX.out.2.2.2.1 HX.out.2.2.2.2
      clear S1 O0 O1 O3
      have x0 := (X3 0 _ rfl).1
      have x1 := (X3 1 _ rfl).1
      have x2 := (X3 2 _ rfl).1
      have x3 := (X3 3 _ rfl).1
      have x4 := (X3 4 _ rfl).1
      have x5 := (X3 5 _ rfl).1
      have HE := near_end (rb := W.heap.size + 1) hlt (by omega) (by have := HSZ.out; omega) Z3 R3 O4 S4
      obtain ⟨r0, g0⟩ := Z3 0 _ rfl
      obtain ⟨r1, g1⟩ := Z3 1 _ rfl
      obtain ⟨r2, g2⟩ := Z3 2 _ rfl
      obtain ⟨r3, g3⟩ := Z3 3 _ rfl
      obtain ⟨r4, g4⟩ := Z3 4 _ rfl
      obtain ⟨r5, g5⟩ := Z3 5 _ rfl
      clear Z3 R3 O4 S4 hn
      go_wp2_with fail
      show bodyPost Try.prog Try.f36 _ Exit.ret _ (put6 w3 (W.heap.size + 1) 0 (.int .i64 hx.k) (.int .i64 hx.m) (.int .i64 hx.e) (.string hx.t) (.slice ax FX.len cx) (.slice hx.na hx.ns.length hx.nc))
      generalize put6 w3 (W.heap.size + 1) 0 (.int .i64 hx.k) (.int .i64 hx.m) (.int .i64 hx.e) (.string hx.t) (.slice ax FX.len cx) (.slice hx.na hx.ns.length hx.nc) = W6 at *
      obtain ⟨z1, z2, z3, z4⟩ := HE.out
      have u0 := (z4 0 _ rfl).1
      have u1 := (z4 1 _ rfl).1
      have u2 := (z4 2 _ rfl).1
      have u3 := (z4 3 _ rfl).1
      have u4 := (z4 4 _ rfl).1
      have u5 := (z4 5 _ rfl).1
      refine bodyPost_ret (v := valV hx ax FX.len cx) (by simp [results, Try.results36, go_sem, u0, u1, u2, u3, u4, u5]) rfl ?_
      exact ⟨hx, FX, ax, cx, _, rfl, ⟨z1.mono (Nat.le_refl _) (by omega), by have := HX.out.1; omega, by have := HX.out.1; omega⟩, by have := HX.out.1; omega, z2, z3⟩
    · have hn2 : ((FX.len : Int) == 0) = false := by simp; omega
      obtain ⟨aX, cX, eX, hlX, hcX, h0X⟩ := own_lies S1.2.1
      obtain ⟨g, hg, hgo, hgB⟩ := h0X.resolve_left hn
      cases eX
      subst hg
      have hgl : g < xb := by have := (S1.2.1.lt g rfl).2; omega
      go_wp2_with fail
      refine (pick_any (FX.len : Nat) R3 (by omega) (by omega) (by omega)).mono ?_
      rintro r w4 ⟨⟨vk, rfl, vk0, vk1⟩, s4⟩
      obtain ⟨k, rfl⟩ := Int.eq_ofNat_of_zero_le vk0
      have hk : k < FX.len := by omega
      have O34 : Otb b w3 w4 := (Otb.refl b w3).stepped s4
      have R4 := R3.step s4
      have X4 : Row w4 xb (six hx (some ⟨g, 0, none⟩) FX.len cx) := Row.otb O34 hxb2 X3
      have Z4 : Row w4 (W.heap.size + 1) zero6 := Row.otb O34 hrb2 Z3
      have O4 : Otb b w1 w4 := O3.trans O34
      have hsz4 : xb < w4.heap.size := by rw [s4.other.2.2]; exact hsz3
      clear R3 X3 Z3 O3 O34 s4 hsz3 y4 vk0 vk1
      go_wp2_with fail
      refine (pick_any 4 R4 (by omega) (by omega) (by omega)).mono ?_
      rintro r w5 ⟨⟨v2, rfl, v20, v21⟩, s5⟩
      have O45 : Otb b w4 w5 := (Otb.refl b w4).stepped s5
      have R5 := R4.step s5
      have X5 : Row w5 xb (six hx (some ⟨g, 0, none⟩) FX.len cx) := Row.otb O45 hxb2 X4
      have Z5 : Row w5 (W.heap.size + 1) zero6 := Row.otb O45 hrb2 Z4
      have O5 : Otb b w1 w5 := O4.trans O45
      have hsz5 : xb < w5.heap.size := by rw [s5.other.2.2]; exact hsz4
      clear R4 X4 Z4 O4 O45 s5 hsz4
      have hbB : b < W0.heap.size := by have := HSZ.out; omega
      have hgx : ¬ g = xb := by omega
      have own5 := O5.own S1.2.1 hbB
      have y4 := (X5 4 _ rfl).1
      have hrx : ¬ W.heap.size + 1 = xb := by have := HSZ.out; omega
      have hrg : ¬ W.heap.size + 1 = g := by have := HSZ.out; omega
      have HN : Hid (¬ FX.len = 0 ∧ ((FX.len : Int) == 0) = false) := ⟨hn, hn2⟩
      clear hn hn2
      have hv2 : v2 = 0 ∨ v2 = 1 ∨ (v2 = 2 ∨ v2 = 3) := by omega
      rcases hv2 with rfl | rfl | hv2
      · go_wp2_with fail
        refine un10 R5 hxb2 hgx hbB y4 hk own5 (by omega) (fun _ d _ _ _ h => by cases d <;> exact h) ?_
        intro ws h1 ag cg G p2 v39 v40 v41 v42 v43 v44 hO hR6 hp2 hval
        have hwx2 : FX.wt ≤ 6000 := by have := HX.out.1.2.1; omega
        have gM := hval.1.1.2.1
        have gw := oneV_wt hval (by omega)
        have hp3 : p2 ≤ p + 450 := by omega
        have hset := setV_size (X := oneV h1 ag cg G) hk
        have hsew := setV_wt_eq (X := oneV h1 ag cg G) hk
        have f1 : (oneV h1 ag cg G).size = G.size + 1 := rfl
        have f2 : (oneV h1 ag cg G).wt = h1.t.size + G.wt + sWt h1.ns + 1 := rfl
        have f3 : (oneV (FX.hdAt k) (FX.addrAt k) (FX.capAt k) (FX.kidsAt k)).wt = (FX.hdAt k).t.size + (FX.kidsAt k).wt + sWt (FX.hdAt k).ns + 1 := rfl
        have hks := Vo.size_at hk
        have O6 := O5.trans hO
        have S6 := near_set (M := 1000) S1 hbB O6 hk ⟨hval.one, hval.oneCl⟩ (hval.blk.mono fun x hx => by have := O5.1; omega) (oneV_few hval (by omega)) (oneV_nob hval) (by omega) (by omega) HX.out.2.1 HX.out.2.2.1 HX.out.2.2.2.1 HX.out.2.2.2.2
        have X6 : Row (put6 ws g (k * 6) (.int .i64 h1.k) (.int .i64 h1.m) (.int .i64 h1.e) (.string h1.t) (.slice ag G.len cg) (.slice h1.na h1.ns.length h1.nc)) xb (six hx (some ⟨g, 0, none⟩) (setV (oneV h1 ag cg G) FX k).len cx) := by
          rw [setV_len (X := oneV h1 ag cg G) rfl hk]
          exact (Otr.put6 b (j := g) (o := k * 6) ws (.int .i64 h1.k) (.int .i64 h1.m) (.int .i64 h1.e) (.string h1.t) (.slice ag G.len cg) (.slice h1.na h1.ns.length h1.nc)).row hxb2 (fun e => hgx (Option.some.inj e).symm) (Row.otb hO hxb2 X5)
        have Z6 : Row (put6 ws g (k * 6) (.int .i64 h1.k) (.int .i64 h1.m) (.int .i64 h1.e) (.string h1.t) (.slice ag G.len cg) (.slice h1.na h1.ns.length h1.nc)) (W.heap.size + 1) zero6 := (Otr.put6 b (j := g) (o := k * 6) ws (.int .i64 h1.k) (.int .i64 h1.m) (.int .i64 h1.e) (.string h1.t) (.slice ag G.len cg) (.slice h1.na h1.ns.length h1.nc)).row hrb2 (fun e => hrg (Option.some.inj e)) (Row.otb hO hrb2 Z5)
        have hbe := put6_below (B := W.heap.size) (nb := g) (o := k * 6) (Below.refl _ ws) (by have := HSZ.out; omega) (.int .i64 h1.k) (.int .i64 h1.m) (.int .i64 h1.e) (.string h1.t) (.slice ag G.len cg) (.slice h1.na h1.ns.length h1.nc)
        have R6 := hR6.uptoU hbe hlt (by omega)
        have O7 : Otb b W (put6 ws g (k * 6) (.int .i64 h1.k) (.int .i64 h1.m) (.int .i64 h1.e) (.string h1.t) (.slice ag G.len cg) (.slice h1.na h1.ns.length h1.nc)) := ((O0.trans O1).trans O6).upto hbe
        have HB : Hid ((setV (oneV h1 ag cg G) FX k).size ≤ F.size + 13 ∧ (setV (oneV h1 ag cg G) FX k).wt ≤ F.wt + 60 * (F.size + 13)) := by
          have := HX.out.1
          exact ⟨by omega, by omega⟩
        clear hset hsew f1 f2 f3 O6 hbe hR6 hO X5 Z5 O5 S1 O0 O1 own5 y4 R5
        generalize put6 ws g (k * 6) (.int .i64 h1.k) (.int .i64 h1.m) (.int .i64 h1.e) (.string h1.t) (.slice ag G.len cg) (.slice h1.na h1.ns.length h1.nc) = wf at *
        have x0 := (X6 0 _ rfl).1
        have x1 := (X6 1 _ rfl).1
        have x2 := (X6 2 _ rfl).1
        have x3 := (X6 3 _ rfl).1
        have x4 := (X6 4 _ rfl).1
        have x5 := (X6 5 _ rfl).1
        have HE := near_end (rb := W.heap.size + 1) hlt (by omega) (by have := HSZ.out; omega) Z6 R6 O7 S6
        obtain ⟨r0, g0⟩ := Z6 0 _ rfl
        obtain ⟨r1, g1⟩ := Z6 1 _ rfl
        obtain ⟨r2, g2⟩ := Z6 2 _ rfl
        obtain ⟨r3, g3⟩ := Z6 3 _ rfl
        obtain ⟨r4, g4⟩ := Z6 4 _ rfl
        obtain ⟨r5, g5⟩ := Z6 5 _ rfl
        clear Z6 R6 O7 S6
        go_wp2_with fail
        show bodyPost Try.prog Try.f36 _ Exit.ret _ (put6 wf (W.heap.size + 1) 0 (.int .i64 hx.k) (.int .i64 hx.m) (.int .i64 hx.e) (.string hx.t) (.slice (some ⟨g, 0, none⟩) (setV (oneV h1 ag cg G) FX k).len cx) (.slice hx.na hx.ns.length hx.nc))
        generalize put6 wf (W.heap.size + 1) 0 (.int .i64 hx.k) (.int .i64 hx.m) (.int .i64 hx.e) (.string hx.t) (.slice (some ⟨g, 0, none⟩) (setV (oneV h1 ag cg G) FX k).len cx) (.slice hx.na hx.ns.length hx.nc) = W6 at *
        obtain ⟨z1, z2, z3, z4⟩ := HE.out
        have u0 := (z4 0 _ rfl).1
        have u1 := (z4 1 _ rfl).1
        have u2 := (z4 2 _ rfl).1
        have u3 := (z4 3 _ rfl).1
        have u4 := (z4 4 _ rfl).1
        have u5 := (z4 5 _ rfl).1
        refine bodyPost_ret (v := valV hx (some ⟨g, 0, none⟩) (setV (oneV h1 ag cg G) FX k).len cx) (by simp [results, Try.results36, go_sem, u0, u1, u2, u3, u4, u5]) rfl ?_
        exact ⟨hx, (setV (oneV h1 ag cg G) FX k), (some ⟨g, 0, none⟩), cx, _, rfl, ⟨z1.mono (Nat.le_refl _) (by omega), by have := HB.out; omega, by have := HB.out; omega⟩, by have := HX.out.1; omega, z2, z3⟩
      · go_wp2_with fail
        obtain ⟨z4, zf4⟩ := X5 4 _ rfl
        refine un12 (n := FX.len) (na := some ⟨g, 0, none⟩) (nc := cx) (L := FX.cells) z4 zf4 (by obtain ⟨_, _, e, hl, _⟩ := own_lies own5; cases e; exact hl) (Vo.cells_length FX) (Vo.cells_one FX) hcX hk (by omega) (fun _ d _ _ _ h => by cases d <;> exact h) ?_
        intro W6 v' v47 v48 v49 v50 v51 v52 v53 v54 v55 v56 v57 v59 hb6 hown6
        obtain ⟨a6, c6, rfl, _, _, _⟩ := own_lies hown6
        rw [← cutV_len hk] at hown6 ⊢
        rw [← cutV_cells] at hown6
        have hne6 : ∀ g', (Value.slice a6 (cutV FX k).len c6).ownBlock = some g' → ¬ g' = xb := fun g' h => by have := (hown6.lt g' h).1; omega
        have h67 := own_mono (own_set (o := 4) hown6 hne6 (.slice a6 (cutV FX k).len c6)) (base' := W0.heap.size) (by omega)
        have X7 : Row (W6.setCell ⟨xb, 4, none⟩ (.slice a6 (cutV FX k).len c6)) xb (six hx a6 (cutV FX k).len c6) := (X5.below hb6 hsz5).set (i := 4) (by show 4 < 6; omega) _
        have Z7 := (Z5.below hb6 Z5.lt).setOther (j := xb) hrx 4 (.slice a6 (cutV FX k).len c6)
        have R7 := (R5.below hb6).set (j := xb) (o := 4) (by have := HSZ.out; omega) (fun e => hxb2 e.symm) (.slice a6 (cutV FX k).len c6)
        have O7 : Otb b w1 (W6.setCell ⟨xb, 4, none⟩ (.slice a6 (cutV FX k).len c6)) := (O5.below hb6).set (j := xb) (o := 4) (by omega) _
        have hsz7 : xb < (W6.setCell ⟨xb, 4, none⟩ (.slice a6 (cutV FX k).len c6)).heap.size := by have := hb6.size; simp [World.setCell]; omega
        generalize W6.setCell ⟨xb, 4, none⟩ (.slice a6 (cutV FX k).len c6) = w7 at *
        clear hb6 hown6 X5 Z5 R5 O5 z4 zf4 y4 own5 hsz5
        have hcs := cutV_size hk
        have y0 := (X7 0 _ rfl).1
        by_cases hk6 : hx.k = 6
        · have hk7 : (hx.k == 6) = true := by simp [hk6]
          obtain ⟨z5, zf5⟩ := X7 5 _ rfl
          have hkn : k < hx.ns.length := by have := HX.out.2.1.2.1 hk6; omega
          have hn4 := HX.out.2.2.1
          obtain ⟨_, _, eN, hlN, hcN, _⟩ := own_lies (O7.own S1.2.2.1 hbB)
          cases eN
          go_wp2_with fail
          refine un14 (n := hx.ns.length) (na := hx.na) (nc := hx.nc) (L := texts hx.ns) z5 zf5 hlN (by rw [texts_length, Nat.mul_one]) texts_one hcN hkn (by omega) (fun _ d _ _ _ h => by cases d <;> exact h) ?_
          intro W8 v' v63 v64 v65 v66 v67 v68 v69 v70 v71 v72 v73 v75 hb8 hown8
          obtain ⟨a8, c8, rfl, _, _, _⟩ := own_lies hown8
          rw [← cut_len hx.ns hkn] at hown8 ⊢
          rw [← cut_texts] at hown8
          have hne8 : ∀ g', (Value.slice a8 (hx.ns.take k ++ hx.ns.drop (k + 1)).length c8).ownBlock = some g' → ¬ g' = xb := fun g' h => by have := (hown8.lt g' h).1; omega
          obtain ⟨hd, hhd⟩ : ∃ hd, hd = Hd.mk hx.k hx.m hx.e hx.t a8 c8 (hx.ns.take k ++ hx.ns.drop (k + 1)) := ⟨_, rfl⟩
          have h19 := own_mono (own_set (o := 5) hown8 hne8 (.slice a8 (hx.ns.take k ++ hx.ns.drop (k + 1)).length c8)) (base' := W0.heap.size) (by have := O7.1; omega)
          have h69 := own_set (j := xb) (o := 5) (own_keep h67 hb8) hne6 (.slice a8 (hx.ns.take k ++ hx.ns.drop (k + 1)).length c8)
          have X9 : Row (W8.setCell ⟨xb, 5, none⟩ (.slice a8 (hx.ns.take k ++ hx.ns.drop (k + 1)).length c8)) xb (six hd a6 (cutV FX k).len c6) := by
            subst hhd
            exact (X7.below hb8 hsz7).set (i := 5) (by show 5 < 6; omega) _
          have Z9 := (Z7.below hb8 Z7.lt).setOther (j := xb) hrx 5 (.slice a8 (hx.ns.take k ++ hx.ns.drop (k + 1)).length c8)
          have R9 := (R7.below hb8).set (j := xb) (o := 5) (by have := HSZ.out; omega) (fun e => hxb2 e.symm) (.slice a8 (hx.ns.take k ++ hx.ns.drop (k + 1)).length c8)
          have O9 : Otb b w1 (W8.setCell ⟨xb, 5, none⟩ (.slice a8 (hx.ns.take k ++ hx.ns.drop (k + 1)).length c8)) := (O7.below hb8).set (j := xb) (o := 5) (by omega) _
          generalize W8.setCell ⟨xb, 5, none⟩ (.slice a8 (hx.ns.take k ++ hx.ns.drop (k + 1)).length c8) = w9 at *
          have S9 : AnyS W0.heap.size 1000 w9 hd a6 c6 (cutV FX k) := by
            subst hhd
            exact near_cut S1 hbB O9 hk h69 h19 (by omega) (by have := HX.out.1; omega) (cutV_fw HX.out.2.1 hk rfl (fun _ => by show hx.ns.length ≤ (hx.ns.take k ++ hx.ns.drop (k + 1)).length + 1; rw [cut_len hx.ns hkn]; omega)) (by show (hx.ns.take k ++ hx.ns.drop (k + 1)).length ≤ 4; rw [cut_len hx.ns hkn]; omega) HX.out.2.2.2.1 (fun s h => HX.out.2.2.2.2 s (cut_mem h))
          have OW : Otb b W w9 := (O0.trans O1).trans O9
          clear hb8 hown8 hne8 hne6 h19 h69 h67 X7 Z7 R7 O7 z5 zf5 y0 hlN hcN O9 O0 O1 S1 hsz7 hhd
          have x0 := (X9 0 _ rfl).1
          have x1 := (X9 1 _ rfl).1
          have x2 := (X9 2 _ rfl).1
          have x3 := (X9 3 _ rfl).1
          have x4 := (X9 4 _ rfl).1
          have x5 := (X9 5 _ rfl).1
          have HE := near_end (rb := W.heap.size + 1) hlt (by omega) (by have := HSZ.out; omega) Z9 R9 OW S9
          obtain ⟨r0, g0⟩ := Z9 0 _ rfl
          obtain ⟨r1, g1⟩ := Z9 1 _ rfl
          obtain ⟨r2, g2⟩ := Z9 2 _ rfl
          obtain ⟨r3, g3⟩ := Z9 3 _ rfl
          obtain ⟨r4, g4⟩ := Z9 4 _ rfl
          obtain ⟨r5, g5⟩ := Z9 5 _ rfl
          clear Z9 R9 OW S9
          go_wp2_with fail
          show bodyPost Try.prog Try.f36 _ Exit.ret _ (put6 w9 (W.heap.size + 1) 0 (.int .i64 hd.k) (.int .i64 hd.m) (.int .i64 hd.e) (.string hd.t) (.slice a6 (cutV FX k).len c6) (.slice hd.na hd.ns.length hd.nc))
          generalize put6 w9 (W.heap.size + 1) 0 (.int .i64 hd.k) (.int .i64 hd.m) (.int .i64 hd.e) (.string hd.t) (.slice a6 (cutV FX k).len c6) (.slice hd.na hd.ns.length hd.nc) = W6 at *
          obtain ⟨z1, z2, z3, z4⟩ := HE.out
          have u0 := (z4 0 _ rfl).1
          have u1 := (z4 1 _ rfl).1
          have u2 := (z4 2 _ rfl).1
          have u3 := (z4 3 _ rfl).1
          have u4 := (z4 4 _ rfl).1
          have u5 := (z4 5 _ rfl).1
          refine bodyPost_ret (v := valV hd a6 (cutV FX k).len c6) (by simp [results, Try.results36, go_sem, u0, u1, u2, u3, u4, u5]) rfl ?_
          exact ⟨hd, (cutV FX k), a6, c6, _, rfl, ⟨z1.mono (Nat.le_refl _) (by omega), by have := HX.out.1; omega, by have := HX.out.1; omega⟩, by have := HX.out.1; omega, z2, z3⟩
        · have hk7 : (hx.k == 6) = false := by simp [hk6]
          have S9 : AnyS W0.heap.size 1000 w7 hx a6 c6 (cutV FX k) := near_cut S1 hbB O7 hk h67 (O7.own S1.2.2.1 hbB) (by omega) (by have := HX.out.1; omega) (cutV_fw HX.out.2.1 hk rfl (fun e => absurd e hk6)) HX.out.2.2.1 HX.out.2.2.2.1 HX.out.2.2.2.2
          have OW : Otb b W w7 := (O0.trans O1).trans O7
          clear h67 O7 O0 O1 S1 hsz7
          have x0 := (X7 0 _ rfl).1
          have x1 := (X7 1 _ rfl).1
          have x2 := (X7 2 _ rfl).1
          have x3 := (X7 3 _ rfl).1
          have x4 := (X7 4 _ rfl).1
          have x5 := (X7 5 _ rfl).1
          have HE := near_end (rb := W.heap.size + 1) hlt (by omega) (by have := HSZ.out; omega) Z7 R7 OW S9
          obtain ⟨r0, g0⟩ := Z7 0 _ rfl
          obtain ⟨r1, g1⟩ := Z7 1 _ rfl
          obtain ⟨r2, g2⟩ := Z7 2 _ rfl
          obtain ⟨r3, g3⟩ := Z7 3 _ rfl
          obtain ⟨r4, g4⟩ := Z7 4 _ rfl
          obtain ⟨r5, g5⟩ := Z7 5 _ rfl
          clear Z7 R7 OW S9
          go_wp2_with fail
          show bodyPost Try.prog Try.f36 _ Exit.ret _ (put6 w7 (W.heap.size + 1) 0 (.int .i64 hx.k) (.int .i64 hx.m) (.int .i64 hx.e) (.string hx.t) (.slice a6 (cutV FX k).len c6) (.slice hx.na hx.ns.length hx.nc))
          generalize put6 w7 (W.heap.size + 1) 0 (.int .i64 hx.k) (.int .i64 hx.m) (.int .i64 hx.e) (.string hx.t) (.slice a6 (cutV FX k).len c6) (.slice hx.na hx.ns.length hx.nc) = W6 at *
          obtain ⟨z1, z2, z3, z4⟩ := HE.out
          have u0 := (z4 0 _ rfl).1
          have u1 := (z4 1 _ rfl).1
          have u2 := (z4 2 _ rfl).1
          have u3 := (z4 3 _ rfl).1
          have u4 := (z4 4 _ rfl).1
          have u5 := (z4 5 _ rfl).1
          refine bodyPost_ret (v := valV hx a6 (cutV FX k).len c6) (by simp [results, Try.results36, go_sem, u0, u1, u2, u3, u4, u5]) rfl ?_
          exact ⟨hx, (cutV FX k), a6, c6, _, rfl, ⟨z1.mono (Nat.le_refl _) (by omega), by have := HX.out.1; omega, by have := HX.out.1; omega⟩, by have := HX.out.1; omega, z2, z3⟩
      · have hv3 : (v2 == 0) = false := by rcases hv2 with rfl | rfl <;> rfl
        have hv4 : (v2 == 1) = false := by rcases hv2 with rfl | rfl <;> rfl
        clear hv2
        obtain ⟨_, _, eI, hlI, _, _⟩ := own_lies own5
        cases eI
        have hin5 : FX.In w5 (some ⟨g, 0, none⟩) := hlI.in ((O5.otr none).kin (S1.2.2.2.2.mono fun x hx => ⟨by omega, fun e => by cases e⟩) S1.2.2.2.1.1)
        obtain ⟨i1, i2, i3, i4⟩ := item_at hin5 hk rfl
        have hks := Vo.size_at hk
        obtain ⟨n1, n2⟩ := Vo.nob_at hk HX.out.2.1.2.2
        obtain ⟨w1', w2'⟩ := Vo.few_at hk HX.out.2.1.1
        have hfi : fw (FX.hdAt k) (FX.kidsAt k) := ⟨w2', n1.1, n2⟩
        have hwi := wt_at hk
        have hp2 : p + 1 + 1 + 1 + 450 * (((FX.kidsAt k).size + 1 : Nat) : Int) ≤ 70000 ∧ p + 1 + 1 + 1 + 450 * (((FX.kidsAt k).size + 1 : Nat) : Int) ≤ p + 450 * ((F.size + 1 : Nat) : Int) := by
          have h1 := HHp.out
          have h2 := HX.out.1.1
          omega
        have hwx2 : FX.wt ≤ 6000 := by have := HX.out.1.2.1; omega
        clear hlI hin5
        go_wp2_with fail
        refine un8 H R5 hxb2 hgx hbB y4 hk own5 hp2.1 (by have := HX.out.1.1; omega) (by omega) hfi (by omega) w1' n1.2.1 n1.2.2 i1 i2 i3 i4 (fun _ d _ _ _ h => by cases d <;> exact h) ?_
        intro ws h1 ag cg G p2 v26 v27 v28 v29 v30 v31 v32 v33 v34 v35 v36 hO hR6 hp2' hAn
        obtain ⟨hval, gM, gw0⟩ := hAn
        have gsw := sWt_le hval.2.2.2.2.2
        have gt := hval.2.2.2.2.1
        have gn := hval.2.2.2.1
        have hp3 : p2 ≤ p + 450 * ((F.size + 1 : Nat) : Int) := by omega
        clear hp2 hp2' i1 i2 i3 i4 hfi
        have hset := setV_size (X := oneV h1 ag cg G) hk
        have hsew := setV_wt_eq (X := oneV h1 ag cg G) hk
        have f1 : (oneV h1 ag cg G).size = G.size + 1 := rfl
        have f2 : (oneV h1 ag cg G).wt = h1.t.size + G.wt + sWt h1.ns + 1 := rfl
        have f3 : (oneV (FX.hdAt k) (FX.addrAt k) (FX.capAt k) (FX.kidsAt k)).wt = (FX.hdAt k).t.size + (FX.kidsAt k).wt + sWt (FX.hdAt k).ns + 1 := rfl
        have hks := Vo.size_at hk
        have O6 := O5.trans hO
        have S6 := near_set (M := 1000) S1 hbB O6 hk ⟨hval.1.1, hval.1.2⟩ (hval.2.1.mono fun x hx => by have := O5.1; omega) ⟨gn, hval.2.2.1.2.2.1, trivial⟩ ⟨⟨hval.2.2.1.2.2.2.1, gt, hval.2.2.2.2.2⟩, hval.2.2.1.2.2.2.2, trivial⟩ (by omega) (by omega) HX.out.2.1 HX.out.2.2.1 HX.out.2.2.2.1 HX.out.2.2.2.2
        have X6 : Row (put6 ws g (k * 6) (.int .i64 h1.k) (.int .i64 h1.m) (.int .i64 h1.e) (.string h1.t) (.slice ag G.len cg) (.slice h1.na h1.ns.length h1.nc)) xb (six hx (some ⟨g, 0, none⟩) (setV (oneV h1 ag cg G) FX k).len cx) := by
          rw [setV_len (X := oneV h1 ag cg G) rfl hk]
          exact (Otr.put6 b (j := g) (o := k * 6) ws (.int .i64 h1.k) (.int .i64 h1.m) (.int .i64 h1.e) (.string h1.t) (.slice ag G.len cg) (.slice h1.na h1.ns.length h1.nc)).row hxb2 (fun e => hgx (Option.some.inj e).symm) (Row.otb hO hxb2 X5)
        have Z6 : Row (put6 ws g (k * 6) (.int .i64 h1.k) (.int .i64 h1.m) (.int .i64 h1.e) (.string h1.t) (.slice ag G.len cg) (.slice h1.na h1.ns.length h1.nc)) (W.heap.size + 1) zero6 := (Otr.put6 b (j := g) (o := k * 6) ws (.int .i64 h1.k) (.int .i64 h1.m) (.int .i64 h1.e) (.string h1.t) (.slice ag G.len cg) (.slice h1.na h1.ns.length h1.nc)).row hrb2 (fun e => hrg (Option.some.inj e)) (Row.otb hO hrb2 Z5)
        have hbe := put6_below (B := W.heap.size) (nb := g) (o := k * 6) (Below.refl _ ws) (by have := HSZ.out; omega) (.int .i64 h1.k) (.int .i64 h1.m) (.int .i64 h1.e) (.string h1.t) (.slice ag G.len cg) (.slice h1.na h1.ns.length h1.nc)
        have R6 := hR6.uptoU hbe hlt (by omega)
        have O7 : Otb b W (put6 ws g (k * 6) (.int .i64 h1.k) (.int .i64 h1.m) (.int .i64 h1.e) (.string h1.t) (.slice ag G.len cg) (.slice h1.na h1.ns.length h1.nc)) := ((O0.trans O1).trans O6).upto hbe
        have HB : Hid ((setV (oneV h1 ag cg G) FX k).size ≤ F.size + 13 ∧ (setV (oneV h1 ag cg G) FX k).wt ≤ F.wt + 60 * (F.size + 13)) := by
          have := HX.out.1
          exact ⟨by omega, by omega⟩
        clear hset hsew f1 f2 f3 O6 hbe hR6 hO X5 Z5 O5 S1 O0 O1 own5 y4 R5
        generalize put6 ws g (k * 6) (.int .i64 h1.k) (.int .i64 h1.m) (.int .i64 h1.e) (.string h1.t) (.slice ag G.len cg) (.slice h1.na h1.ns.length h1.nc) = wf at *
        have x0 := (X6 0 _ rfl).1
        have x1 := (X6 1 _ rfl).1
        have x2 := (X6 2 _ rfl).1
        have x3 := (X6 3 _ rfl).1
        have x4 := (X6 4 _ rfl).1
        have x5 := (X6 5 _ rfl).1
        have HE := near_end (rb := W.heap.size + 1) hlt (by omega) (by have := HSZ.out; omega) Z6 R6 O7 S6
        obtain ⟨r0, g0⟩ := Z6 0 _ rfl
        obtain ⟨r1, g1⟩ := Z6 1 _ rfl
        obtain ⟨r2, g2⟩ := Z6 2 _ rfl
        obtain ⟨r3, g3⟩ := Z6 3 _ rfl
        obtain ⟨r4, g4⟩ := Z6 4 _ rfl
        obtain ⟨r5, g5⟩ := Z6 5 _ rfl
        clear Z6 R6 O7 S6
        go_wp2_with fail
        show bodyPost Try.prog Try.f36 _ Exit.ret _ (put6 wf (W.heap.size + 1) 0 (.int .i64 hx.k) (.int .i64 hx.m) (.int .i64 hx.e) (.string hx.t) (.slice (some ⟨g, 0, none⟩) (setV (oneV h1 ag cg G) FX k).len cx) (.slice hx.na hx.ns.length hx.nc))
        generalize put6 wf (W.heap.size + 1) 0 (.int .i64 hx.k) (.int .i64 hx.m) (.int .i64 hx.e) (.string hx.t) (.slice (some ⟨g, 0, none⟩) (setV (oneV h1 ag cg G) FX k).len cx) (.slice hx.na hx.ns.length hx.nc) = W6 at *
        obtain ⟨z1, z2, z3, z4⟩ := HE.out
        have u0 := (z4 0 _ rfl).1
        have u1 := (z4 1 _ rfl).1
        have u2 := (z4 2 _ rfl).1
        have u3 := (z4 3 _ rfl).1
        have u4 := (z4 4 _ rfl).1
        have u5 := (z4 5 _ rfl).1
        refine bodyPost_ret (v := valV hx (some ⟨g, 0, none⟩) (setV (oneV h1 ag cg G) FX k).len cx) (by simp [results, Try.results36, go_sem, u0, u1, u2, u3, u4, u5]) rfl ?_
        exact ⟨hx, (setV (oneV h1 ag cg G) FX k), (some ⟨g, 0, none⟩), cx, _, rfl, ⟨z1.mono (Nat.le_refl _) (by omega), by have := HB.out; omega, by have := HB.out; omega⟩, by have := HX.out.1; omega, z2, z3⟩
theorem l14Near_any (N : Nat) : NearC N := by
  induction N with
  | zero => intro w0 B b a len cap p W h av c F hF; omega
  | succ N ih => exact l14Near_step N ih
end Go.Proofs.Ytalncebnahlmdaa
/- Drawn values: DrawValueCmp. -/
namespace Go.Proofs.Ytalncebnahlmdaa
open Go.RowKit
attribute [local go_sem] cell_alloc_is frozen_alloc_is
set_option maxRecDepth 100000 in
set_option maxHeartbeats 2000000 in
theorem dv4 {Q : Exit → Act → World → Prop} {t0 t1 t6 t7 t8 t9 t10 t11 t12 t13 t14 t15 t16 t17 t18 t19 : Value} {w0 : World} {B b : Nat} {a : Option Addr} {len cap : Nat} {p2 : Int} {W : World} {vb r0 r1 B0 M : Nat} {hV : Hd} {av : Option Addr} {c : Nat} {F : Vo}
    (hvb : ¬ vb = b) (h0b : ¬ r0 = b) (h1b : ¬ r1 = b) (hv0 : ¬ vb = r0) (hv1 : ¬ vb = r1) (h01 : ¬ r1 = r0) (hV0 : Row W vb (six hV av F.len c)) (hZ0 : Row W r0 zero6) (hZ1 : Row W r1 zero6) (hC : Calls Try.prog 36 #[.pointer (some ⟨b, 0, none⟩), valV hV av F.len c] W.drew fun e w' => ∃ h1 G ag cg p', e = .returned (valV h1 ag G.len cg) ∧ AnyS B0 M w' h1 ag cg G ∧ p' ≤ p2 ∧ Rd w0 B b a len cap p' w' ∧ Otb b W w')
    (hp : ∀ p d v a w, Q (.panic p) (Act.put a d v) w → Q (.panic p) a w) (h : ∀ ws h1 ag cg G p' v13 v14 v15 v16, Otb b W ws → Rd w0 B b a len cap p' ws → p' ≤ p2 → AnyS B0 M ws h1 ag cg G → Q .normal { tmps := (t0 :: t1 :: .pointer (some ⟨r0, 0, none⟩) :: .pointer (some ⟨r1, 0, none⟩) :: .pointer (some ⟨b, 0, none⟩) :: .pointer (some ⟨vb, 0, none⟩) :: t6 :: t7 :: t8 :: t9 :: t10 :: t11 :: t12 :: v13 :: v14 :: v15 :: v16 :: t17 :: t18 :: t19 :: []).toArray, defers := [] } (put6 (put6 ws r0 0 (.int .i64 hV.k) (.int .i64 hV.m) (.int .i64 hV.e) (.string hV.t) (.slice av F.len c) (.slice hV.na hV.ns.length hV.nc)) r1 0 (.int .i64 h1.k) (.int .i64 h1.m) (.int .i64 h1.e) (.string h1.t) (.slice ag G.len cg) (.slice h1.na h1.ns.length h1.nc))) :
    Code.wp Try.prog (Code.region 4 #[{ dst := some 13, op := Op.load 28 (Operand.tmp 5), type := 28, pos := "l14_draw.go:952", after := #[], guard := none }, { dst := some 14, op := Op.move (Operand.tmp 4), type := 42, pos := "l14_draw.go:952", after := #[], guard := none }, { dst := some 15, op := Op.load 28 (Operand.tmp 5), type := 28, pos := "l14_draw.go:952", after := #[], guard := none }, { dst := some 16, op := Op.call { callee := Callee.value (Operand.func 36), args := #[Operand.tmp 14, Operand.tmp 15], argTypes := #[42, 28] }, type := 28, pos := "l14_draw.go:952", after := #[{ on := 1, ground := Ground.data }, { on := 2, ground := Ground.data }], guard := none }, { dst := none, op := Op.store 28 (Operand.tmp 2) (Operand.tmp 13), type := 0, pos := "l14_draw.go:952", after := #[{ on := 0, ground := Ground.data }, { on := 3, ground := Ground.chain }, { on := 0, ground := Ground.phase }, { on := 1, ground := Ground.textOnly Departure.lateStores }, { on := 2, ground := Ground.textOnly Departure.lateStores }, { on := 3, ground := Ground.textOnly Departure.lateStoresUnsure }], guard := none }, { dst := none, op := Op.store 28 (Operand.tmp 3) (Operand.tmp 16), type := 0, pos := "l14_draw.go:952", after := #[{ on := 3, ground := Ground.data }, { on := 4, ground := Ground.chain }, { on := 0, ground := Ground.phase }, { on := 1, ground := Ground.phase }, { on := 2, ground := Ground.phase }, { on := 3, ground := Ground.phase }, { on := 4, ground := Ground.phase }], guard := none }] true) Q { tmps := (t0 :: t1 :: .pointer (some ⟨r0, 0, none⟩) :: .pointer (some ⟨r1, 0, none⟩) :: .pointer (some ⟨b, 0, none⟩) :: .pointer (some ⟨vb, 0, none⟩) :: t6 :: t7 :: t8 :: t9 :: t10 :: t11 :: t12 :: t13 :: t14 :: t15 :: t16 :: t17 :: t18 :: t19 :: []).toArray, defers := [] } W := by
  have HS : Hid (∀ w', Otb b W w' → Cells6 w' vb 0 hV (.slice av F.len c)) := fun w' h => by
    have hr := Row.otb h hvb hV0
    exact ⟨(hr 0 _ rfl).1, (hr 1 _ rfl).1, (hr 2 _ rfl).1, (hr 3 _ rfl).1, (hr 4 _ rfl).1, (hr 5 _ rfl).1⟩
  have HZ : Hid (∀ w', Otb b W w' → Row w' r0 zero6 ∧ Row w' r1 zero6) := fun w' h => ⟨Row.otb h h0b hZ0, Row.otb h h1b hZ1⟩
  have hO := (Otb.refl b W).drew
  have hS0 := HS.out _ hO
  have HOd : Hid (Otb b W W.drew) := hO
  have HC : Hid (Calls Try.prog 36 #[.pointer (some ⟨b, 0, none⟩), valV hV av F.len c] W.drew fun e w' => ∃ h1 G ag cg p', e = .returned (valV h1 ag G.len cg) ∧ AnyS B0 M w' h1 ag cg G ∧ p' ≤ p2 ∧ Rd w0 B b a len cap p' w' ∧ Otb b W w') := hC
  clear hV0 hZ0 hZ1 hC hO
  refine wp_region_held_drew (S := fun w' => Cells6 w' vb 0 hV (.slice av F.len c)) (by kernel_rfl) hS0 (fun hHeld => ?_)
  generalize W.drew = Wd at *
  refine wpAnyH_take (i := 0) (v := valV hV av F.len c) rfl (by kernel_rfl) (by kernel_rfl) (by kernel_rfl) (fun _ _ _ h => hp _ _ _ _ _ h) (Or.inl ⟨by rfl, ?_⟩) (by assumption) ?_
  · intro w hSw
    (try dsimp only at hSw)
    (obtain ⟨l0, l1, l2, l3, l4, l5⟩ := hSw; go_simp)
  (try simp only [Act.put, List.getElem_toArray, List.getElem_cons_zero, List.setIfInBounds_toArray, List.set_cons_zero, List.set_cons_succ])
  refine wpAnyH_take (i := 1) (v := .pointer (some ⟨b, 0, none⟩)) rfl (by kernel_rfl) (by kernel_rfl) (by kernel_rfl) (fun _ _ _ h => hp _ _ _ _ _ h) (Or.inl ⟨by rfl, ?_⟩) (by assumption) ?_
  · intro w hSw
    (try dsimp only at hSw)
    go_simp
  (try simp only [Act.put, List.getElem_toArray, List.getElem_cons_zero, List.getElem_cons_succ, List.setIfInBounds_toArray, List.set_cons_zero, List.set_cons_succ])
  refine wpAnyH_take (i := 2) (v := valV hV av F.len c) rfl (by kernel_rfl) (by kernel_rfl) (by kernel_rfl) (fun _ _ _ h => hp _ _ _ _ _ h) (Or.inl ⟨by rfl, ?_⟩) (by assumption) ?_
  · intro w hSw
    (try dsimp only at hSw)
    (obtain ⟨l0, l1, l2, l3, l4, l5⟩ := hSw; go_simp)
  (try simp only [Act.put, List.getElem_toArray, List.getElem_cons_zero, List.getElem_cons_succ, List.setIfInBounds_toArray, List.set_cons_zero, List.set_cons_succ])
  clear hS0 hHeld
  refine wpAnyH_ready (rs := [3]) (by kernel_rfl) (by simp) ?_
  refine AllReadyH.cons rfl (fun K hK => ?_) AllReadyH.nil
  go_simp
  refine HC.out.mono ?_
  rintro r ws ⟨h1, G, ag, cg, p', rfl, hg, hp1, hR1, hO1⟩
  go_wp2_with fail
  refine hK.out _ _ (HS.out _ hO1) (fun hHeld => ?_)
  clear hK K
  obtain ⟨hz0, hz1⟩ := HZ.out _ hO1
  have hHw := HS.out _ hO1
  have hz1' : Row (put6 ws r0 0 (.int .i64 hV.k) (.int .i64 hV.m) (.int .i64 hV.e) (.string hV.t) (.slice av F.len c) (.slice hV.na hV.ns.length hV.nc)) r1 zero6 := (Otr.put6 b (j := r0) (o := 0) ws (.int .i64 hV.k) (.int .i64 hV.m) (.int .i64 hV.e) (.string hV.t) (.slice av F.len c) (.slice hV.na hV.ns.length hV.nc)).row h1b (fun e => h01 (Option.some.inj e)) hz1
  have hH1 : Cells6 (put6 ws r0 0 (.int .i64 hV.k) (.int .i64 hV.m) (.int .i64 hV.e) (.string hV.t) (.slice av F.len c) (.slice hV.na hV.ns.length hV.nc)) vb 0 hV (.slice av F.len c) := hHw.mono fun o' u hu => (put6_other (.inl hv0)).trans hu
  have hH2 : Cells6 (put6 (put6 ws r0 0 (.int .i64 hV.k) (.int .i64 hV.m) (.int .i64 hV.e) (.string hV.t) (.slice av F.len c) (.slice hV.na hV.ns.length hV.nc)) r1 0 (.int .i64 h1.k) (.int .i64 h1.m) (.int .i64 h1.e) (.string h1.t) (.slice ag G.len cg) (.slice h1.na h1.ns.length h1.nc)) vb 0 hV (.slice av F.len c) := hH1.mono fun o' u hu => (put6_other (.inl hv1)).trans hu
  obtain ⟨c0, fz0⟩ := hz0 0 _ rfl
  obtain ⟨c1, fz1⟩ := hz0 1 _ rfl
  obtain ⟨c2, fz2⟩ := hz0 2 _ rfl
  obtain ⟨c3, fz3⟩ := hz0 3 _ rfl
  obtain ⟨c4, fz4⟩ := hz0 4 _ rfl
  obtain ⟨c5, fz5⟩ := hz0 5 _ rfl
  clear hz0 hz1 hHw hHeld
  refine wpAnyH_ready (rs := [4]) (by kernel_rfl) (by simp) ?_
  refine AllReadyH.cons rfl (fun K hK => ?_) AllReadyH.nil
  go_simp
  refine hK.out _ (put6 ws r0 0 (.int .i64 hV.k) (.int .i64 hV.m) (.int .i64 hV.e) (.string hV.t) (.slice av F.len c) (.slice hV.na hV.ns.length hV.nc)) hH1 (fun hHeld => ?_)
  clear hK K hHeld c0 fz0 c1 fz1 c2 fz2 c3 fz3 c4 fz4 c5 fz5
  obtain ⟨c0, fz0⟩ := hz1' 0 _ rfl
  obtain ⟨c1, fz1⟩ := hz1' 1 _ rfl
  obtain ⟨c2, fz2⟩ := hz1' 2 _ rfl
  obtain ⟨c3, fz3⟩ := hz1' 3 _ rfl
  obtain ⟨c4, fz4⟩ := hz1' 4 _ rfl
  obtain ⟨c5, fz5⟩ := hz1' 5 _ rfl
  clear hz1'
  have HF := fun v13 v14 v15 v16 => h ws h1 ag cg G p' v13 v14 v15 v16 hO1 hR1 hp1 hg
  clear h
  generalize (put6 ws r0 0 (.int .i64 hV.k) (.int .i64 hV.m) (.int .i64 hV.e) (.string hV.t) (.slice av F.len c) (.slice hV.na hV.ns.length hV.nc)) = wp at *
  refine wpAnyH_ready (rs := [5]) (by kernel_rfl) (by simp) ?_
  refine AllReadyH.cons rfl (fun K hK => ?_) AllReadyH.nil
  go_simp
  refine hK.out _ (put6 wp r1 0 (.int .i64 h1.k) (.int .i64 h1.m) (.int .i64 h1.e) (.string h1.t) (.slice ag G.len cg) (.slice h1.na h1.ns.length h1.nc)) hH2 (fun hHeld => ?_)
  refine wpAnyH_done (by kernel_rfl) ?_ _
  exact HF _ _ _ _ 
set_option maxRecDepth 100000 in
set_option maxHeartbeats 2000000 in
theorem dv5 {Q : Exit → Act → World → Prop} {t0 t1 t6 t7 t8 t9 t10 t11 t12 t13 t14 t15 t16 t17 t18 t19 : Value} {w0 : World} {B b : Nat} {a : Option Addr} {len cap : Nat} {p2 : Int} {W : World} {vb r0 r1 B0 M : Nat} {hV : Hd} {av : Option Addr} {c : Nat} {F : Vo}
    (hvb : ¬ vb = b) (h0b : ¬ r0 = b) (h1b : ¬ r1 = b) (hv0 : ¬ vb = r0) (hv1 : ¬ vb = r1) (h01 : ¬ r1 = r0) (hV0 : Row W vb (six hV av F.len c)) (hZ0 : Row W r0 zero6) (hZ1 : Row W r1 zero6) (hC : Calls Try.prog 22 #[.pointer (some ⟨b, 0, none⟩)] W.drew fun e w' => ∃ h1 G ag cg p', e = .returned (valV h1 ag G.len cg) ∧ AnyS B0 M w' h1 ag cg G ∧ p' ≤ p2 ∧ Rd w0 B b a len cap p' w' ∧ Otb b W w')
    (hp : ∀ p d v a w, Q (.panic p) (Act.put a d v) w → Q (.panic p) a w) (h : ∀ ws h1 ag cg G p' v17 v18 v19, Otb b W ws → Rd w0 B b a len cap p' ws → p' ≤ p2 → AnyS B0 M ws h1 ag cg G → Q .normal { tmps := (t0 :: t1 :: .pointer (some ⟨r0, 0, none⟩) :: .pointer (some ⟨r1, 0, none⟩) :: .pointer (some ⟨b, 0, none⟩) :: .pointer (some ⟨vb, 0, none⟩) :: t6 :: t7 :: t8 :: t9 :: t10 :: t11 :: t12 :: t13 :: t14 :: t15 :: t16 :: v17 :: v18 :: v19 :: []).toArray, defers := [] } (put6 (put6 ws r0 0 (.int .i64 hV.k) (.int .i64 hV.m) (.int .i64 hV.e) (.string hV.t) (.slice av F.len c) (.slice hV.na hV.ns.length hV.nc)) r1 0 (.int .i64 h1.k) (.int .i64 h1.m) (.int .i64 h1.e) (.string h1.t) (.slice ag G.len cg) (.slice h1.na h1.ns.length h1.nc))) :
    Code.wp Try.prog (Code.region 5 #[{ dst := some 17, op := Op.load 28 (Operand.tmp 5), type := 28, pos := "l14_draw.go:954", after := #[], guard := none }, { dst := some 18, op := Op.move (Operand.tmp 4), type := 42, pos := "l14_draw.go:954", after := #[], guard := none }, { dst := some 19, op := Op.call { callee := Callee.value (Operand.func 22), args := #[Operand.tmp 18], argTypes := #[42] }, type := 28, pos := "l14_draw.go:954", after := #[{ on := 1, ground := Ground.data }], guard := none }, { dst := none, op := Op.store 28 (Operand.tmp 2) (Operand.tmp 17), type := 0, pos := "l14_draw.go:954", after := #[{ on := 0, ground := Ground.data }, { on := 2, ground := Ground.chain }, { on := 0, ground := Ground.phase }, { on := 1, ground := Ground.textOnly Departure.lateStores }, { on := 2, ground := Ground.textOnly Departure.lateStoresUnsure }], guard := none }, { dst := none, op := Op.store 28 (Operand.tmp 3) (Operand.tmp 19), type := 0, pos := "l14_draw.go:954", after := #[{ on := 2, ground := Ground.data }, { on := 3, ground := Ground.chain }, { on := 0, ground := Ground.phase }, { on := 1, ground := Ground.phase }, { on := 2, ground := Ground.phase }, { on := 3, ground := Ground.phase }], guard := none }] true) Q { tmps := (t0 :: t1 :: .pointer (some ⟨r0, 0, none⟩) :: .pointer (some ⟨r1, 0, none⟩) :: .pointer (some ⟨b, 0, none⟩) :: .pointer (some ⟨vb, 0, none⟩) :: t6 :: t7 :: t8 :: t9 :: t10 :: t11 :: t12 :: t13 :: t14 :: t15 :: t16 :: t17 :: t18 :: t19 :: []).toArray, defers := [] } W := by
  have HS : Hid (∀ w', Otb b W w' → Cells6 w' vb 0 hV (.slice av F.len c)) := fun w' h => by
    have hr := Row.otb h hvb hV0
    exact ⟨(hr 0 _ rfl).1, (hr 1 _ rfl).1, (hr 2 _ rfl).1, (hr 3 _ rfl).1, (hr 4 _ rfl).1, (hr 5 _ rfl).1⟩
  have HZ : Hid (∀ w', Otb b W w' → Row w' r0 zero6 ∧ Row w' r1 zero6) := fun w' h => ⟨Row.otb h h0b hZ0, Row.otb h h1b hZ1⟩
  have hO := (Otb.refl b W).drew
  have hS0 := HS.out _ hO
  have HOd : Hid (Otb b W W.drew) := hO
  have HC : Hid (Calls Try.prog 22 #[.pointer (some ⟨b, 0, none⟩)] W.drew fun e w' => ∃ h1 G ag cg p', e = .returned (valV h1 ag G.len cg) ∧ AnyS B0 M w' h1 ag cg G ∧ p' ≤ p2 ∧ Rd w0 B b a len cap p' w' ∧ Otb b W w') := hC
  clear hV0 hZ0 hZ1 hC hO
  refine wp_region_held_drew (S := fun w' => Cells6 w' vb 0 hV (.slice av F.len c)) (by kernel_rfl) hS0 (fun hHeld => ?_)
  generalize W.drew = Wd at *
  refine wpAnyH_take (i := 0) (v := valV hV av F.len c) rfl (by kernel_rfl) (by kernel_rfl) (by kernel_rfl) (fun _ _ _ h => hp _ _ _ _ _ h) (Or.inl ⟨by rfl, ?_⟩) (by assumption) ?_
  · intro w hSw
    (try dsimp only at hSw)
    (obtain ⟨l0, l1, l2, l3, l4, l5⟩ := hSw; go_simp)
  (try simp only [Act.put, List.getElem_toArray, List.getElem_cons_zero, List.setIfInBounds_toArray, List.set_cons_zero, List.set_cons_succ])
  refine wpAnyH_take (i := 1) (v := .pointer (some ⟨b, 0, none⟩)) rfl (by kernel_rfl) (by kernel_rfl) (by kernel_rfl) (fun _ _ _ h => hp _ _ _ _ _ h) (Or.inl ⟨by rfl, ?_⟩) (by assumption) ?_
  · intro w hSw
    (try dsimp only at hSw)
    go_simp
  (try simp only [Act.put, List.getElem_toArray, List.getElem_cons_zero, List.getElem_cons_succ, List.setIfInBounds_toArray, List.set_cons_zero, List.set_cons_succ])
  clear hS0 hHeld
  refine wpAnyH_ready (rs := [2]) (by kernel_rfl) (by simp) ?_
  refine AllReadyH.cons rfl (fun K hK => ?_) AllReadyH.nil
  go_simp
  refine HC.out.mono ?_
  rintro r ws ⟨h1, G, ag, cg, p', rfl, hg, hp1, hR1, hO1⟩
  go_wp2_with fail
  refine hK.out _ _ (HS.out _ hO1) (fun hHeld => ?_)
  clear hK K
  obtain ⟨hz0, hz1⟩ := HZ.out _ hO1
  have hHw := HS.out _ hO1
  have hz1' : Row (put6 ws r0 0 (.int .i64 hV.k) (.int .i64 hV.m) (.int .i64 hV.e) (.string hV.t) (.slice av F.len c) (.slice hV.na hV.ns.length hV.nc)) r1 zero6 := (Otr.put6 b (j := r0) (o := 0) ws (.int .i64 hV.k) (.int .i64 hV.m) (.int .i64 hV.e) (.string hV.t) (.slice av F.len c) (.slice hV.na hV.ns.length hV.nc)).row h1b (fun e => h01 (Option.some.inj e)) hz1
  have hH1 : Cells6 (put6 ws r0 0 (.int .i64 hV.k) (.int .i64 hV.m) (.int .i64 hV.e) (.string hV.t) (.slice av F.len c) (.slice hV.na hV.ns.length hV.nc)) vb 0 hV (.slice av F.len c) := hHw.mono fun o' u hu => (put6_other (.inl hv0)).trans hu
  have hH2 : Cells6 (put6 (put6 ws r0 0 (.int .i64 hV.k) (.int .i64 hV.m) (.int .i64 hV.e) (.string hV.t) (.slice av F.len c) (.slice hV.na hV.ns.length hV.nc)) r1 0 (.int .i64 h1.k) (.int .i64 h1.m) (.int .i64 h1.e) (.string h1.t) (.slice ag G.len cg) (.slice h1.na h1.ns.length h1.nc)) vb 0 hV (.slice av F.len c) := hH1.mono fun o' u hu => (put6_other (.inl hv1)).trans hu
  obtain ⟨c0, fz0⟩ := hz0 0 _ rfl
  obtain ⟨c1, fz1⟩ := hz0 1 _ rfl
  obtain ⟨c2, fz2⟩ := hz0 2 _ rfl
  obtain ⟨c3, fz3⟩ := hz0 3 _ rfl
  obtain ⟨c4, fz4⟩ := hz0 4 _ rfl
  obtain ⟨c5, fz5⟩ := hz0 5 _ rfl
  clear hz0 hz1 hHw hHeld
  refine wpAnyH_ready (rs := [3]) (by kernel_rfl) (by simp) ?_
  refine AllReadyH.cons rfl (fun K hK => ?_) AllReadyH.nil
  go_simp
  refine hK.out _ (put6 ws r0 0 (.int .i64 hV.k) (.int .i64 hV.m) (.int .i64 hV.e) (.string hV.t) (.slice av F.len c) (.slice hV.na hV.ns.length hV.nc)) hH1 (fun hHeld => ?_)
  clear hK K hHeld c0 fz0 c1 fz1 c2 fz2 c3 fz3 c4 fz4 c5 fz5
  obtain ⟨c0, fz0⟩ := hz1' 0 _ rfl
  obtain ⟨c1, fz1⟩ := hz1' 1 _ rfl
  obtain ⟨c2, fz2⟩ := hz1' 2 _ rfl
  obtain ⟨c3, fz3⟩ := hz1' 3 _ rfl
  obtain ⟨c4, fz4⟩ := hz1' 4 _ rfl
  obtain ⟨c5, fz5⟩ := hz1' 5 _ rfl
  clear hz1'
  have HF := fun v17 v18 v19 => h ws h1 ag cg G p' v17 v18 v19 hO1 hR1 hp1 hg
  clear h
  generalize (put6 ws r0 0 (.int .i64 hV.k) (.int .i64 hV.m) (.int .i64 hV.e) (.string hV.t) (.slice av F.len c) (.slice hV.na hV.ns.length hV.nc)) = wp at *
  refine wpAnyH_ready (rs := [4]) (by kernel_rfl) (by simp) ?_
  refine AllReadyH.cons rfl (fun K hK => ?_) AllReadyH.nil
  go_simp
  refine hK.out _ (put6 wp r1 0 (.int .i64 h1.k) (.int .i64 h1.m) (.int .i64 h1.e) (.string h1.t) (.slice ag G.len cg) (.slice h1.na h1.ns.length h1.nc)) hH2 (fun hHeld => ?_)
  refine wpAnyH_done (by kernel_rfl) ?_ _
  exact HF _ _ _ 
end Go.Proofs.Ytalncebnahlmdaa
/- Drawn values: DrawValueCmp. -/
namespace Go.Proofs.Ytalncebnahlmdaa
open Go.RowKit
attribute [local go_sem] cell_alloc_is frozen_alloc_is
set_option maxRecDepth 100000 in
set_option maxHeartbeats 2000000 in
theorem drawValueCmp_any (W : World) (a : Option Addr) (len cap : Nat) (h : CodeIn W a len cap) :
    Calls Try.prog 17 #[.slice a len cap] W fun e w' => (∃ hV F av c h1 G ag cg, e = .returned (.tuple #[valV hV av F.len c, valV h1 ag G.len cg]) ∧ AnyS W.heap.size 1000 w' hV av c F ∧ AnyS W.heap.size 1000 w' h1 ag cg G) ∧ Below W.heap.size W w' := by
  obtain ⟨W1, hW1⟩ : ∃ W1, W1 = (W.alloc (.cells #[.int .i64 0, .int .i64 0, .int .i64 0, .string ⟨#[]⟩, .slice none 0 0, .slice none 0 0] 28)).alloc (.cells #[.int .i64 0, .int .i64 0, .int .i64 0, .string ⟨#[]⟩, .slice none 0 0, .slice none 0 0] 28) := ⟨_, rfl⟩
  have hbW : Below W.heap.size W W1 := by subst hW1; exact (by (repeat' (first | assumption | exact Below.refl _ _ | refine Below.alloc ?_ ?_ _ | refine Below.setCell ?_ ?_ _ | refine Below.drew ?_ | refine below_drewN ?_ _)) <;> (first | omega | (simp <;> omega)))
  have HSZ : Hid (W1.heap.size = W.heap.size + 1 + 1) := by unfold Hid; subst hW1; simp
  have Z0 : Row W1 W.heap.size zero6 := by
    subst hW1
    exact (Row.new W zero6 28).below ((Below.refl _ _).alloc (Nat.le_refl _) _) (by simp)
  have Y0 : Row W1 (W.heap.size + 1) zero6 := by
    subst hW1
    have := Row.new (W.alloc (.cells #[.int .i64 0, .int .i64 0, .int .i64 0, .string ⟨#[]⟩, .slice none 0 0, .slice none 0 0] 28)) zero6 28
    rw [World.size_alloc] at this
    exact this
  have hC := h.below hbW
  clear h
  go_enter Try.func17, Try.ntmps17
  go_wp2_with fail
  rw [← hW1]
  clear hW1
  skip
  refine (l1Open_any W1 a len cap hC).mono ?_
  rintro e w1 ⟨len', rfl, hR⟩
  have hb1 : Below W1.heap.size W1 w1 := hR.1
  have hz1 := hR.lt
  have Z1 := Z0.below hb1 Z0.lt
  have Y1 := Y0.below hb1 Y0.lt
  clear hC Z0 Y0 hb1
  go_wp2_with fail
  refine (l14AnyValue_any 0 w1 hR (by omega)).mono ?_
  rintro e w2 ⟨hV, F, av, c, p2, rfl, S2, hp2, R2, O2⟩
  obtain ⟨b, hbb⟩ : ∃ b, W1.heap.size = b := ⟨_, rfl⟩
  rw [hbb] at R2 O2 hz1 HSZ ⊢
  clear hbb
  have h0b : ¬ W.heap.size = b := by have := HSZ.out; omega
  have h1b : ¬ W.heap.size + 1 = b := by have := HSZ.out; omega
  have Z2 := Row.otb O2 h0b Z1
  have Y2 := Row.otb O2 h1b Y1
  have hz2 : b < w2.heap.size := Nat.lt_of_lt_of_le hz1 O2.1
  have hz12 := O2.1
  clear hR Z1 Y1 O2
  have hbV : Below w2.heap.size w2 (w2.alloc (.cells #[.int .i64 hV.k, .int .i64 hV.m, .int .i64 hV.e, .string hV.t, .slice av F.len c, .slice hV.na hV.ns.length hV.nc] 28)) := (Below.refl _ _).alloc (Nat.le_refl _) _
  have V3 : Row (w2.alloc (.cells #[.int .i64 hV.k, .int .i64 hV.m, .int .i64 hV.e, .string hV.t, .slice av F.len c, .slice hV.na hV.ns.length hV.nc] 28)) w2.heap.size (six hV av F.len c) := Row.new w2 _ _
  have Z3 := Z2.below hbV Z2.lt
  have Y3 := Y2.below hbV Y2.lt
  have R3 := R2.below hbV
  have S3 := S2.below hbV
  have hsz : w2.heap.size < (w2.alloc (.cells #[.int .i64 hV.k, .int .i64 hV.m, .int .i64 hV.e, .string hV.t, .slice av F.len c, .slice hV.na hV.ns.length hV.nc] 28)).heap.size := by simp
  clear Z2 Y2 R2 S2 hbV
  go_wp2_with fail
  obtain ⟨vb, hvb⟩ : ∃ vb, w2.heap.size = vb := ⟨_, rfl⟩
  rw [hvb] at V3 hsz hz2 hz12 ⊢
  generalize w2.alloc (.cells #[.int .i64 hV.k, .int .i64 hV.m, .int .i64 hV.e, .string hV.t, .slice av F.len c, .slice hV.na hV.ns.length hV.nc] 28) = W3 at *
  clear hvb
  refine (pick_any 3 R3 (by omega) (by omega) (by omega)).mono ?_
  rintro r w4 ⟨⟨v, rfl, v0, v1⟩, s4⟩
  have hvb2 : ¬ vb = b := by omega
  have O34 := (Otb.refl b W3).stepped s4
  have R4 := R3.step s4
  have V4 := Row.otb O34 hvb2 V3
  have Z4 := Row.otb O34 h0b Z3
  have Y4 := Row.otb O34 h1b Y3
  have S4 : AnyS w1.heap.size 60 w4 hV av c F := S3.otr (O34.otr none) (by omega) (fun g hg => by cases hg)
  have hz4 : vb < w4.heap.size := by rw [s4.other.2.2]; exact hsz
  clear R3 V3 Z3 Y3 S3 O34 s4 hsz
  have hv0 : ¬ vb = W.heap.size := by have := HSZ.out; omega
  have hv1 : ¬ vb = W.heap.size + 1 := by have := HSZ.out; omega
  have h01 : ¬ W.heap.size + 1 = W.heap.size := by omega
  have hbd := (Below.refl w4.heap.size w4).drew
  have hOd := (Otb.refl b w4).drew
  by_cases hv : 0 < v
  · have hC : Calls Try.prog 36 #[.pointer (some ⟨b, 0, none⟩), valV hV av F.len c] w4.drew fun e w' => ∃ h1 G ag cg p', e = .returned (valV h1 ag G.len cg) ∧ AnyS w1.heap.size 1000 w' h1 ag cg G ∧ p' ≤ 70000 ∧ Rd W1 b b a len' cap p' w' ∧ Otb b w4 w' := by
      have SD := S4.below hbd
      obtain ⟨i1, i2, i3⟩ := Vo.kin_one.1 SD.1.1
      obtain ⟨sz1, sz2, sz3⟩ := SD.2.2.1
      refine (l14Near_any (F.size + 1) W1 b b a len' cap (p2 + 1) w4.drew hV av c F (by omega) (by omega) sz3 (by omega) SD.2.2.2.1 SD.2.2.2.2.1 SD.2.2.2.2.2 (R4.below hbd) (by omega) i1 i2.1 i2.2 i3).mono ?_
      rintro e w' ⟨h1, G, ag, cg, p', rfl, ⟨g1, _, _⟩, g2, g3, g4⟩
      have hzd : w4.drew.heap.size = w4.heap.size := rfl
      exact ⟨h1, G, ag, cg, p', rfl, g1.mono (by omega) (Nat.le_refl _), by omega, g3, hOd.trans g4⟩
    clear hbd
    go_wp2_with fail
    have hbz := HSZ.out
    refine dv4 hvb2 h0b h1b hv0 hv1 h01 V4 Z4 Y4 hC (fun _ d _ _ _ h => by cases d <;> exact h) ?_
    intro ws h1 ag cg G p' v13 v14 v15 v16 hO hR5 hp5 hA
    have SW : AnyS w1.heap.size 60 ws hV av c F := S4.otr (hO.otr none) (by omega) (fun g hg => by cases hg)
    have Z5 := Row.otb hO h0b Z4
    have Y5 := Row.otb hO h1b Y4
    have Oa := Otr.put6 b (j := W.heap.size) (o := 0) ws (.int .i64 hV.k) (.int .i64 hV.m) (.int .i64 hV.e) (.string hV.t) (.slice av F.len c) (.slice hV.na hV.ns.length hV.nc)
    have Ob := Otr.put6 b (j := (W.heap.size + 1)) (o := 0) (put6 ws W.heap.size 0 (.int .i64 hV.k) (.int .i64 hV.m) (.int .i64 hV.e) (.string hV.t) (.slice av F.len c) (.slice hV.na hV.ns.length hV.nc)) (.int .i64 h1.k) (.int .i64 h1.m) (.int .i64 h1.e) (.string h1.t) (.slice ag G.len cg) (.slice h1.na h1.ns.length h1.nc)
    have ZZ : Row (put6 (put6 ws W.heap.size 0 (.int .i64 hV.k) (.int .i64 hV.m) (.int .i64 hV.e) (.string hV.t) (.slice av F.len c) (.slice hV.na hV.ns.length hV.nc)) (W.heap.size + 1) 0 (.int .i64 h1.k) (.int .i64 h1.m) (.int .i64 h1.e) (.string h1.t) (.slice ag G.len cg) (.slice h1.na h1.ns.length h1.nc)) W.heap.size (six hV av F.len c) := Ob.row h0b (fun e => h01 (Option.some.inj e).symm) (Row.put6 (v0 := .int .i64 hV.k) (v1 := .int .i64 hV.m) (v2 := .int .i64 hV.e) (v3 := .string hV.t) (v4 := .slice av F.len c) (v5 := .slice hV.na hV.ns.length hV.nc) Z5)
    have YY : Row (put6 (put6 ws W.heap.size 0 (.int .i64 hV.k) (.int .i64 hV.m) (.int .i64 hV.e) (.string hV.t) (.slice av F.len c) (.slice hV.na hV.ns.length hV.nc)) (W.heap.size + 1) 0 (.int .i64 h1.k) (.int .i64 h1.m) (.int .i64 h1.e) (.string h1.t) (.slice ag G.len cg) (.slice h1.na h1.ns.length h1.nc)) (W.heap.size + 1) (six h1 ag G.len cg) := Row.put6 (v0 := .int .i64 h1.k) (v1 := .int .i64 h1.m) (v2 := .int .i64 h1.e) (v3 := .string h1.t) (v4 := .slice ag G.len cg) (v5 := .slice h1.na h1.ns.length h1.nc) (Oa.row h1b (fun e => h01 (Option.some.inj e)) Y5)
    have HE : Hid ((AnyS W.heap.size 1000 (put6 (put6 ws W.heap.size 0 (.int .i64 hV.k) (.int .i64 hV.m) (.int .i64 hV.e) (.string hV.t) (.slice av F.len c) (.slice hV.na hV.ns.length hV.nc)) (W.heap.size + 1) 0 (.int .i64 h1.k) (.int .i64 h1.m) (.int .i64 h1.e) (.string h1.t) (.slice ag G.len cg) (.slice h1.na h1.ns.length h1.nc)) hV av c F ∧ AnyS W.heap.size 1000 (put6 (put6 ws W.heap.size 0 (.int .i64 hV.k) (.int .i64 hV.m) (.int .i64 hV.e) (.string hV.t) (.slice av F.len c) (.slice hV.na hV.ns.length hV.nc)) (W.heap.size + 1) 0 (.int .i64 h1.k) (.int .i64 h1.m) (.int .i64 h1.e) (.string h1.t) (.slice ag G.len cg) (.slice h1.na h1.ns.length h1.nc)) h1 ag cg G) ∧ Below W.heap.size W (put6 (put6 ws W.heap.size 0 (.int .i64 hV.k) (.int .i64 hV.m) (.int .i64 hV.e) (.string hV.t) (.slice av F.len c) (.slice hV.na hV.ns.length hV.nc)) (W.heap.size + 1) 0 (.int .i64 h1.k) (.int .i64 h1.m) (.int .i64 h1.e) (.string h1.t) (.slice ag G.len cg) (.slice h1.na h1.ns.length h1.nc))) :=
      ⟨⟨((SW.otr Oa (by omega) (fun g hg => by cases hg; omega)).otr Ob (by omega) (fun g hg => by cases hg; omega)).mono (by omega) (by omega), ((hA.otr Oa (by omega) (fun g hg => by cases hg; omega)).otr Ob (by omega) (fun g hg => by cases hg; omega)).mono (by omega) (by omega)⟩, put6_below (put6_below (hbW.trans (hR5.1.mono (by omega))) (Nat.le_refl _) _ _ _ _ _ _) (by omega) _ _ _ _ _ _⟩
    clear hC SW Z5 Y5 Oa Ob hO hR5 hA V4 Z4 Y4 R4 S4 hOd hbz
    generalize (put6 (put6 ws W.heap.size 0 (.int .i64 hV.k) (.int .i64 hV.m) (.int .i64 hV.e) (.string hV.t) (.slice av F.len c) (.slice hV.na hV.ns.length hV.nc)) (W.heap.size + 1) 0 (.int .i64 h1.k) (.int .i64 h1.m) (.int .i64 h1.e) (.string h1.t) (.slice ag G.len cg) (.slice h1.na h1.ns.length h1.nc)) = W6 at *
    go_wp2_with fail
    have y0 := (ZZ 0 _ rfl).1
    have y1 := (ZZ 1 _ rfl).1
    have y2 := (ZZ 2 _ rfl).1
    have y3 := (ZZ 3 _ rfl).1
    have y4 := (ZZ 4 _ rfl).1
    have y5 := (ZZ 5 _ rfl).1
    have x0 := (YY 0 _ rfl).1
    have x1 := (YY 1 _ rfl).1
    have x2 := (YY 2 _ rfl).1
    have x3 := (YY 3 _ rfl).1
    have x4 := (YY 4 _ rfl).1
    have x5 := (YY 5 _ rfl).1
    refine bodyPost_ret (v := .tuple #[valV hV av F.len c, valV h1 ag G.len cg]) (by simp [results, Try.results17, go_sem, y0, y1, y2, y3, y4, y5, x0, x1, x2, x3, x4, x5]) rfl ?_
    exact ⟨⟨hV, F, av, c, h1, G, ag, cg, rfl, HE.out.1⟩, HE.out.2⟩
  · have hC : Calls Try.prog 22 #[.pointer (some ⟨b, 0, none⟩)] w4.drew fun e w' => ∃ h1 G ag cg p', e = .returned (valV h1 ag G.len cg) ∧ AnyS w1.heap.size 1000 w' h1 ag cg G ∧ p' ≤ 70000 ∧ Rd W1 b b a len' cap p' w' ∧ Otb b w4 w' := by
      refine (l14AnyValue_any (p2 + 1) w4.drew (R4.below hbd) (by omega)).mono ?_
      rintro e w' ⟨h1, G, ag, cg, p', rfl, g1, g2, g3, g4⟩
      have hzd : w4.drew.heap.size = w4.heap.size := rfl
      exact ⟨h1, G, ag, cg, p', rfl, g1.mono (by omega) (by omega), by omega, g3, hOd.trans g4⟩
    clear hbd
    go_wp2_with fail
    have hbz := HSZ.out
    refine dv5 hvb2 h0b h1b hv0 hv1 h01 V4 Z4 Y4 hC (fun _ d _ _ _ h => by cases d <;> exact h) ?_
    intro ws h1 ag cg G p' v17 v18 v19 hO hR5 hp5 hA
    have SW : AnyS w1.heap.size 60 ws hV av c F := S4.otr (hO.otr none) (by omega) (fun g hg => by cases hg)
    have Z5 := Row.otb hO h0b Z4
    have Y5 := Row.otb hO h1b Y4
    have Oa := Otr.put6 b (j := W.heap.size) (o := 0) ws (.int .i64 hV.k) (.int .i64 hV.m) (.int .i64 hV.e) (.string hV.t) (.slice av F.len c) (.slice hV.na hV.ns.length hV.nc)
    have Ob := Otr.put6 b (j := (W.heap.size + 1)) (o := 0) (put6 ws W.heap.size 0 (.int .i64 hV.k) (.int .i64 hV.m) (.int .i64 hV.e) (.string hV.t) (.slice av F.len c) (.slice hV.na hV.ns.length hV.nc)) (.int .i64 h1.k) (.int .i64 h1.m) (.int .i64 h1.e) (.string h1.t) (.slice ag G.len cg) (.slice h1.na h1.ns.length h1.nc)
    have ZZ : Row (put6 (put6 ws W.heap.size 0 (.int .i64 hV.k) (.int .i64 hV.m) (.int .i64 hV.e) (.string hV.t) (.slice av F.len c) (.slice hV.na hV.ns.length hV.nc)) (W.heap.size + 1) 0 (.int .i64 h1.k) (.int .i64 h1.m) (.int .i64 h1.e) (.string h1.t) (.slice ag G.len cg) (.slice h1.na h1.ns.length h1.nc)) W.heap.size (six hV av F.len c) := Ob.row h0b (fun e => h01 (Option.some.inj e).symm) (Row.put6 (v0 := .int .i64 hV.k) (v1 := .int .i64 hV.m) (v2 := .int .i64 hV.e) (v3 := .string hV.t) (v4 := .slice av F.len c) (v5 := .slice hV.na hV.ns.length hV.nc) Z5)
    have YY : Row (put6 (put6 ws W.heap.size 0 (.int .i64 hV.k) (.int .i64 hV.m) (.int .i64 hV.e) (.string hV.t) (.slice av F.len c) (.slice hV.na hV.ns.length hV.nc)) (W.heap.size + 1) 0 (.int .i64 h1.k) (.int .i64 h1.m) (.int .i64 h1.e) (.string h1.t) (.slice ag G.len cg) (.slice h1.na h1.ns.length h1.nc)) (W.heap.size + 1) (six h1 ag G.len cg) := Row.put6 (v0 := .int .i64 h1.k) (v1 := .int .i64 h1.m) (v2 := .int .i64 h1.e) (v3 := .string h1.t) (v4 := .slice ag G.len cg) (v5 := .slice h1.na h1.ns.length h1.nc) (Oa.row h1b (fun e => h01 (Option.some.inj e)) Y5)
    have HE : Hid ((AnyS W.heap.size 1000 (put6 (put6 ws W.heap.size 0 (.int .i64 hV.k) (.int .i64 hV.m) (.int .i64 hV.e) (.string hV.t) (.slice av F.len c) (.slice hV.na hV.ns.length hV.nc)) (W.heap.size + 1) 0 (.int .i64 h1.k) (.int .i64 h1.m) (.int .i64 h1.e) (.string h1.t) (.slice ag G.len cg) (.slice h1.na h1.ns.length h1.nc)) hV av c F ∧ AnyS W.heap.size 1000 (put6 (put6 ws W.heap.size 0 (.int .i64 hV.k) (.int .i64 hV.m) (.int .i64 hV.e) (.string hV.t) (.slice av F.len c) (.slice hV.na hV.ns.length hV.nc)) (W.heap.size + 1) 0 (.int .i64 h1.k) (.int .i64 h1.m) (.int .i64 h1.e) (.string h1.t) (.slice ag G.len cg) (.slice h1.na h1.ns.length h1.nc)) h1 ag cg G) ∧ Below W.heap.size W (put6 (put6 ws W.heap.size 0 (.int .i64 hV.k) (.int .i64 hV.m) (.int .i64 hV.e) (.string hV.t) (.slice av F.len c) (.slice hV.na hV.ns.length hV.nc)) (W.heap.size + 1) 0 (.int .i64 h1.k) (.int .i64 h1.m) (.int .i64 h1.e) (.string h1.t) (.slice ag G.len cg) (.slice h1.na h1.ns.length h1.nc))) :=
      ⟨⟨((SW.otr Oa (by omega) (fun g hg => by cases hg; omega)).otr Ob (by omega) (fun g hg => by cases hg; omega)).mono (by omega) (by omega), ((hA.otr Oa (by omega) (fun g hg => by cases hg; omega)).otr Ob (by omega) (fun g hg => by cases hg; omega)).mono (by omega) (by omega)⟩, put6_below (put6_below (hbW.trans (hR5.1.mono (by omega))) (Nat.le_refl _) _ _ _ _ _ _) (by omega) _ _ _ _ _ _⟩
    clear hC SW Z5 Y5 Oa Ob hO hR5 hA V4 Z4 Y4 R4 S4 hOd hbz
    generalize (put6 (put6 ws W.heap.size 0 (.int .i64 hV.k) (.int .i64 hV.m) (.int .i64 hV.e) (.string hV.t) (.slice av F.len c) (.slice hV.na hV.ns.length hV.nc)) (W.heap.size + 1) 0 (.int .i64 h1.k) (.int .i64 h1.m) (.int .i64 h1.e) (.string h1.t) (.slice ag G.len cg) (.slice h1.na h1.ns.length h1.nc)) = W6 at *
    go_wp2_with fail
    have y0 := (ZZ 0 _ rfl).1
    have y1 := (ZZ 1 _ rfl).1
    have y2 := (ZZ 2 _ rfl).1
    have y3 := (ZZ 3 _ rfl).1
    have y4 := (ZZ 4 _ rfl).1
    have y5 := (ZZ 5 _ rfl).1
    have x0 := (YY 0 _ rfl).1
    have x1 := (YY 1 _ rfl).1
    have x2 := (YY 2 _ rfl).1
    have x3 := (YY 3 _ rfl).1
    have x4 := (YY 4 _ rfl).1
    have x5 := (YY 5 _ rfl).1
    refine bodyPost_ret (v := .tuple #[valV hV av F.len c, valV h1 ag G.len cg]) (by simp [results, Try.results17, go_sem, y0, y1, y2, y3, y4, y5, x0, x1, x2, x3, x4, x5]) rfl ?_
    exact ⟨⟨hV, F, av, c, h1, G, ag, cg, rfl, HE.out.1⟩, HE.out.2⟩
end Go.Proofs.Ytalncebnahlmdaa
/- Contracts: DecMul of both sides. -/
namespace Go.Proofs.Ytalncebnahlmdaa
open Go.RowKit

/-- two decimals that came in, and the one that goes out, in three blocks in a row -/
def Three (w : World) (b : Nat) (m x n y p q : Int) : Prop := Two w b m x ∧ Two w (b + 1) n y ∧ Two w (b + 2) p q ∧ b + 2 < w.heap.size
theorem Three.new (w : World) (m x n y p q : Int) (T U V : TypeId) : Three (((w.alloc (.cells #[.int .i64 m, .int .i64 x] T)).alloc (.cells #[.int .i64 n, .int .i64 y] U)).alloc (.cells #[.int .i64 p, .int .i64 q] V)) w.heap.size m x n y p q := by
  have h1 := Two.new w m x T
  have h2 := Two.new (w.alloc (.cells #[.int .i64 m, .int .i64 x] T)) n y U
  have h3 := Two.new ((w.alloc (.cells #[.int .i64 m, .int .i64 x] T)).alloc (.cells #[.int .i64 n, .int .i64 y] U)) p q V
  rw [World.size_alloc] at h2 h3
  rw [World.size_alloc] at h3
  exact ⟨(h1.alloc (by simp) _).alloc (by simp; omega) _, h2.alloc (by simp) _, h3, by simp⟩
theorem Three.below {w w' : World} {b : Nat} {m x n y p q : Int} (h : Three w b m x n y p q) (hb : Below w.heap.size w w') : Three w' b m x n y p q := by
  obtain ⟨h1, h2, h3, h4⟩ := h
  have := hb.size
  exact ⟨h1.below hb (by omega), h2.below hb (by omega), h3.below hb (by omega), by omega⟩
theorem below3 (w : World) (a b c : Obj) : Below w.heap.size w (((w.alloc a).alloc b).alloc c) := (by (repeat' (first | assumption | exact Below.refl _ _ | refine Below.alloc ?_ ?_ _ | refine Below.setCell ?_ ?_ _ | refine Below.drew ?_ | refine below_drewN ?_ _)) <;> (first | omega | (simp <;> omega)))

end Go.Proofs.Ytalncebnahlmdaa
/- Contracts: l1Least, l1Up, tenTo, manAt, l1Add, DecAdd of both sides. -/
namespace Go.Proofs.Ytalncebnahlmdaa
open Go.RowKit

theorem ret_int {k : IntKind} {a b : Int} (h : a = b) : Ending.returned (.int k a) = .returned (.int k b) := by rw [h]
/-- a number and a truth, as a call hands them back -/
abbrev int2 (r : Int × Bool) : Ending := .returned (.tuple #[.int .i64 r.1, .bool r.2])

set_option maxHeartbeats 400000 in
theorem tenTo_any (p : Int) (w : World) (h0 : 0 ≤ p) (h1 : p ≤ 18) :
    Calls Try.prog 106 #[.int .i64 p] w fun e w' => e = .returned (.int .i64 (Dm.p10 p)) ∧ w' = w := by
  go_enter Try.func106, Try.ntmps106
  go_wp2
  go_loop [3, 5] (fun t i => ∃ k : Int, 0 ≤ k ∧ k ≤ p ∧ i = .int .i64 k ∧ t = .int .i64 (Dm.p10 k)) (fun _ i => (p - intOf i).toNat)
  case atStart => exact ⟨0, by omega, by omega, rfl, rfl⟩
  case round =>
    obtain ⟨k, hk0, hk1, rfl, rfl⟩ := hrel
    by_cases hlt : k < p
    · have hp := Dm.p10_pos k
      have hb := Dm.p10_mono (j := k) (k := 17) (by omega)
      have hb2 : Dm.p10 17 = 100000000000000000 := rfl
      rw [hb2] at hb
      clear hb2
      have HS : Hid (Dm.p10 (k + 1) = Dm.p10 k * 10) := Dm.p10_succ k hk0
      go_wp2
      go_round
      case rel => exact ⟨k + 1, by omega, by omega, by go_num, by rw [HS.out]⟩
      case measure => simp [intOf]; omega
    · have : k = p := by omega
      subst this
      go_wp2
      go_ret
      exact ⟨rfl, rfl⟩

set_option maxHeartbeats 400000 in
theorem manAt_any (m x p : Int) (w : World) (hm : Dm.ok m x = true) (hp : p ≤ x) (hp2 : -8 ≤ p) :
    Calls Try.prog 88 #[.agg #[.int .i64 m, .int .i64 x], .int .i64 p] w fun e w' => e = int2 (Dm.manAt m x p) ∧ Below w.heap.size w w' := by
  obtain ⟨b1, b2, b3, b4⟩ := Dm.ok_bd hm
  by_cases h0 : m = 0
  · subst h0
    go_enter Try.func88, Try.ntmps88
    go_wp2
    go_ret2
    exact ⟨rfl, (by (repeat' (first | assumption | exact Below.refl _ _ | refine Below.alloc ?_ ?_ _ | refine Below.setCell ?_ ?_ _ | refine Below.drew ?_ | refine below_drewN ?_ _)) <;> (first | omega | (simp <;> omega)))⟩
  · have hz : (m == 0) = false := by simp [h0]
    by_cases h8 : 8 < x - p
    · have HF : Hid (Dm.manAt m x p = (0, false)) := by unfold Hid; simp [Dm.manAt, h0, h8]
      go_enter Try.func88, Try.ntmps88
      go_wp2
      go_ret2
      exact ⟨by rw [HF.out]; rfl, (by (repeat' (first | assumption | exact Below.refl _ _ | refine Below.alloc ?_ ?_ _ | refine Below.setCell ?_ ?_ _ | refine Below.drew ?_ | refine below_drewN ?_ _)) <;> (first | omega | (simp <;> omega)))⟩
    · have HF : Hid (Dm.manAt m x p = (m * Dm.p10 (x - p), true)) := by unfold Hid; simp [Dm.manAt, h0, h8]
      have hb := Dm.mul_bd (m := m) (n := Dm.p10 (x - p)) 99999999 100000000 (by omega) (by omega) (by omega) (by have := Dm.p10_pos (x - p); omega) (Dm.p10_mono (k := 8) (by omega))
      obtain ⟨hb1, hb2⟩ := hb
      go_enter Try.func88, Try.ntmps88
      go_wp2_with fail
      go_quiet ((go_at_call 106; exact Calls.quiet_of_same (tenTo_any _ _ (by omega) (by omega))))
      go_wp2
      go_ret2
      exact ⟨by rw [HF.out]; rfl, below_drewN (by (repeat' (first | assumption | exact Below.refl _ _ | refine Below.alloc ?_ ?_ _ | refine Below.setCell ?_ ?_ _ | refine Below.drew ?_ | refine below_drewN ?_ _)) <;> (first | omega | (simp <;> omega))) _⟩
end Go.Proofs.Ytalncebnahlmdaa
