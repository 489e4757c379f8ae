/- My own texts, joined: Ur Us. -/
import Derived.Test.YtfgchdnpbbgmjaaJFnTomlNot8
import Derived.Deep.RegionHeld3
/- Drawn values: l14Flat's region that draws: an item more. -/
namespace Go.Proofs.Ytfgchdnpbbgmjaa
open Go.RowKit
/-- how great a flat drawn value may be -/
def szF : Nat → Nat
  | 0 => 0
  | d + 1 => 2 * (szF d + 1)
/-- how often it is picked -/
def pkF : Nat → Nat
  | 0 => 40
  | d + 1 => 40 + 2 * (pkF d + 4)
/-- what l14Flat answers -/
def FlatC (w0 : World) (B b : Nat) (a : Option Addr) (len cap d : Nat) : Prop := ∀ (p : Int) (W : World), Rd w0 B b a len cap p W → p + pkF d ≤ 70000 →
  Calls Try.prog 48 #[.pointer (some ⟨b, 0, none⟩), .int .i64 (d : Nat)] W fun e w' => ∃ h F av c p', e = .returned (valV h av F.len c) ∧ ValS W.heap.size 3 (szF d) w' h av c F ∧ p' ≤ p + pkF d ∧ Rd w0 B b a len cap p' w' ∧ Otb b W w'
set_option maxRecDepth 100000 in
set_option maxHeartbeats 2000000 in
theorem uf9 {Q : Exit → Act → World → Prop} {t2 t3 t4 t6 t7 t8 t9 t10 t11 t12 t13 t14 t15 t16 t17 t18 t19 t20 t21 t22 t23 t24 t25 t26 t27 t28 t29 t30 t31 t32 t33 t34 t35 t36 : Value} {w0 : World} {B b : Nat} {a : Option Addr} {len cap d : Nat} {D p : Int} {W : World} {vb B0 n c : Nat} {av : Option Addr} {F : Vo}
    (H : FlatC w0 B b a len cap d) (hR : Rd w0 B b a len cap p W) (hq : p + pkF d ≤ 70000) (hd : d ≤ 1000) (hD : D = (d : Int) + 1) (hvb : ¬ vb = b) (hvB : vb < B0) (hbB : b < B0) (hBW : B0 ≤ W.heap.size) (hv : W.cell? ⟨vb, 4, none⟩ = some (.slice av n c)) (hvf : W.frozen? ⟨vb, 4, none⟩ = false) (hown : W.ownsRow B0 28 6 (.slice av n c) n F.cells) (hn : n ≤ 10)
    (hp : ∀ p d v a w, Q (.panic p) (Act.put a d v) w → Q (.panic p) a w) (h : ∀ ws v' h G ag cg p' v27 v28 v29 v30 v31 v32 v33 v35, Otr b (blkOf av) W ws → Rd w0 B b a len cap p' ws → p' ≤ p + pkF d → ValS W.heap.size 3 (szF d) ws h ag cg G → ws.ownsRow B0 28 6 v' (n + 1) (F.app (oneV h ag cg G)).cells → (v'.ownBlock = blkOf av ∨ ∃ g, v'.ownBlock = some g ∧ W.heap.size ≤ g ∧ (oneV h ag cg G).Blk (fun x => x < g)) → Q .normal { tmps := (.pointer (some ⟨b, 0, none⟩) :: .int .i64 D :: t2 :: t3 :: t4 :: .pointer (some ⟨vb, 0, none⟩) :: t6 :: t7 :: t8 :: t9 :: t10 :: t11 :: t12 :: t13 :: t14 :: t15 :: t16 :: t17 :: t18 :: t19 :: t20 :: t21 :: t22 :: t23 :: t24 :: t25 :: t26 :: v27 :: v28 :: v29 :: v30 :: v31 :: v32 :: v33 :: v' :: v35 :: t36 :: []).toArray, defers := [] } (ws.setCell ⟨vb, 4, none⟩ v')) :
    Code.wp Try.prog (Code.region 9 #[{ dst := some 27, op := Op.fieldAddr 28 (Operand.tmp 5) 3, type := 0, pos := "l14_draw.go:795", after := #[], guard := none }, { dst := some 28, op := Op.load 25 (Operand.tmp 27), type := 25, pos := "l14_draw.go:795", after := #[{ on := 0, ground := Ground.data }], guard := none }, { dst := some 29, op := Op.move (Operand.tmp 0), type := 45, pos := "l14_draw.go:795", after := #[], guard := none }, { dst := some 30, op := Op.move (Operand.tmp 1), type := 3, pos := "l14_draw.go:795", after := #[], guard := none }, { dst := some 31, op := Op.binOp BinOp.sub 3 (Operand.tmp 30) (Operand.const (Value.int IntKind.i64 1)) 3, type := 3, pos := "l14_draw.go:795", after := #[{ on := 3, ground := Ground.data }], guard := none }, { dst := some 32, op := Op.call { callee := Callee.value (Operand.func 48), args := #[Operand.tmp 29, Operand.tmp 31], argTypes := #[45, 3] }, type := 28, pos := "l14_draw.go:795", after := #[{ on := 2, ground := Ground.data }, { on := 4, ground := Ground.data }], guard := none }, { dst := some 33, op := Op.buildSlice 25 1 #[(0, Operand.tmp 32)], type := 25, pos := "l14_draw.go:795", after := #[{ on := 5, ground := Ground.data }], guard := none }, { dst := some 34, op := Op.call { callee := Callee.builtin Builtin.append, args := #[Operand.tmp 28, Operand.tmp 33], argTypes := #[25, 25] }, type := 25, pos := "l14_draw.go:795", after := #[{ on := 1, ground := Ground.data }, { on := 6, ground := Ground.data }, { on := 5, ground := Ground.chain }], guard := none }, { dst := some 35, op := Op.fieldAddr 28 (Operand.tmp 5) 3, type := 0, pos := "l14_draw.go:795", after := #[{ on := 0, ground := Ground.phase }, { on := 1, ground := Ground.phase }, { on := 2, ground := Ground.phase }, { on := 3, ground := Ground.phase }, { on := 4, ground := Ground.phase }, { on := 5, ground := Ground.phase }, { on := 6, ground := Ground.phase }, { on := 7, ground := Ground.phase }], guard := none }, { dst := none, op := Op.store 25 (Operand.tmp 35) (Operand.tmp 34), type := 0, pos := "l14_draw.go:795", after := #[{ on := 8, ground := Ground.data }, { on := 7, ground := Ground.data }, { on := 7, ground := Ground.chain }, { on := 0, ground := Ground.phase }, { on := 1, ground := Ground.phase }, { on := 2, ground := Ground.phase }, { on := 3, ground := Ground.phase }, { on := 4, ground := Ground.phase }, { on := 5, ground := Ground.phase }, { on := 6, ground := Ground.phase }, { on := 7, ground := Ground.phase }], guard := none }] true) Q { tmps := (.pointer (some ⟨b, 0, none⟩) :: .int .i64 D :: t2 :: t3 :: t4 :: .pointer (some ⟨vb, 0, none⟩) :: t6 :: t7 :: t8 :: t9 :: t10 :: t11 :: t12 :: t13 :: t14 :: t15 :: t16 :: t17 :: t18 :: t19 :: t20 :: t21 :: t22 :: t23 :: t24 :: t25 :: t26 :: t27 :: t28 :: t29 :: t30 :: t31 :: t32 :: t33 :: t34 :: t35 :: t36 :: []).toArray, defers := [] } W := by
  obtain ⟨i0, hi, hz0, hz1, hz2⟩ := info_parts valInfo
  have hvl := World.block_lt_of_cell? W _ hv
  have hbl := hR.lt
  have HO : Hid (∀ w', Otb b W w' → (w'.cell? ⟨vb, 4, none⟩ = some (.slice av n c) ∧ w'.frozen? ⟨vb, 4, none⟩ = false)) := fun w' h => ⟨(h.cell hvl hvb).trans hv, (h.frozen hvl hvb).trans hvf⟩
  have HW : Hid (∀ w', Otb b W w' → w'.ownsRow B0 28 6 (.slice av n c) n F.cells) := fun w' h => h.own hown hbB
  have HR : Hid (Rd w0 B b a len cap p W.drew) := hR.below ((Below.refl _ _).drew)
  have HZ : Hid (W.drew.heap.size = W.heap.size) := rfl
  have hO := (Otb.refl b W).drew
  have HOd : Hid (Otb b W W.drew) := hO
  have HDD : Hid (D = (d : Int) + 1) := hD
  clear hv hvf hown hR hD
  refine wp_region_held_drew (S := fun _ => True) (by kernel_rfl) trivial (fun _ => ?_)
  generalize W.drew = Wd at *
  have hSw : (fun _ : World => True) Wd := trivial
  refine wpAnyH_take (i := 0) (v := .pointer (some ⟨vb, 4, none⟩)) rfl (by kernel_rfl) (by kernel_rfl) (by kernel_rfl) (fun _ _ _ h => hp _ _ _ _ _ h) (Or.inl ⟨by rfl, ?_⟩) (by assumption) ?_
  · intro w hSw
    (try dsimp only at hSw)
    go_simp
  (try simp only [Act.put, List.getElem_toArray, List.getElem_cons_zero, List.setIfInBounds_toArray, List.set_cons_zero, List.set_cons_succ])
  refine wpAnyH_take (i := 2) (v := .pointer (some ⟨b, 0, none⟩)) rfl (by kernel_rfl) (by kernel_rfl) (by kernel_rfl) (fun _ _ _ h => hp _ _ _ _ _ h) (Or.inl ⟨by rfl, ?_⟩) (by assumption) ?_
  · intro w hSw
    (try dsimp only at hSw)
    go_simp
  (try simp only [Act.put, List.getElem_toArray, List.getElem_cons_zero, List.getElem_cons_succ, List.setIfInBounds_toArray, List.set_cons_zero, List.set_cons_succ])
  refine wpAnyH_take (i := 3) (v := .int .i64 D) rfl (by kernel_rfl) (by kernel_rfl) (by kernel_rfl) (fun _ _ _ h => hp _ _ _ _ _ h) (Or.inl ⟨by rfl, ?_⟩) (by assumption) ?_
  · intro w hSw
    (try dsimp only at hSw)
    go_simp
  (try simp only [Act.put, List.getElem_toArray, List.getElem_cons_zero, List.getElem_cons_succ, List.setIfInBounds_toArray, List.set_cons_zero, List.set_cons_succ])
  refine wpAnyH_take (i := 4) (v := .int .i64 (d : Nat)) rfl (by kernel_rfl) (by kernel_rfl) (by kernel_rfl) (fun _ _ _ h => hp _ _ _ _ _ h) (Or.inl ⟨by rfl, ?_⟩) (by assumption) ?_
  · intro w hSw
    (try dsimp only at hSw)
    (go_simp; rw [IntKind.wrap_i64] <;> (have := HDD.out; omega))
  (try simp only [Act.put, List.getElem_toArray, List.getElem_cons_zero, List.getElem_cons_succ, List.setIfInBounds_toArray, List.set_cons_zero, List.set_cons_succ])
  clear hSw
  refine wpAnyH_ready (rs := [1, 5]) (by kernel_rfl) (by simp) ?_
  refine AllReadyH.cons rfl (fun K hK => ?_) (AllReadyH.cons rfl (fun K hK => ?_) AllReadyH.nil)
  · skip
    obtain ⟨hcl, _⟩ := HO.out _ hO
    go_simp
    refine hK.out _ _ trivial (fun _ => ?_)
    clear hK K hcl
    (try simp only [Act.put, List.getElem_toArray, List.getElem_cons_zero, List.getElem_cons_succ, List.setIfInBounds_toArray, List.set_cons_zero, List.set_cons_succ])
    refine wpAnyH_ready (rs := [5]) (by kernel_rfl) (by simp) ?_
    refine AllReadyH.cons rfl (fun K hK => ?_) AllReadyH.nil
    have hH := H p Wd HR.out hq
    go_simp
    refine hH.mono ?_
    rintro r w1 ⟨h1, G, ag, cg, p1, rfl, hval, hp1, hR1, hO1⟩
    have hO1' := HOd.out.trans hO1
    go_wp2_with fail
    refine hK.out _ _ trivial (fun _ => ?_)
    clear hK K hH hO hO1
    have hO := hO1'
    clear hO1'
    refine wpAnyH_ready (rs := [6]) (by kernel_rfl) (by simp) ?_
    refine AllReadyH.cons rfl (fun K hK => ?_) AllReadyH.nil
    go_simp
    have hO2 := hO.alloc (.cells #[.int .i64 h1.k, .int .i64 h1.m, .int .i64 h1.e, .string h1.t, .slice ag G.len cg, .slice h1.na h1.ns.length h1.nc] 28)
    have hel : Own0 (w1.alloc (.cells #[.int .i64 h1.k, .int .i64 h1.m, .int .i64 h1.e, .string h1.t, .slice ag G.len cg, .slice h1.na h1.ns.length h1.nc] 28)) W.heap.size w1.heap.size (six h1 ag G.len cg) := Own0.new w1 W.heap.size [.int .i64 h1.k, .int .i64 h1.m, .int .i64 h1.e, .string h1.t, .slice ag G.len cg, .slice h1.na h1.ns.length h1.nc] 28 hO.1
    have hbW : Below w1.heap.size w1 (w1.alloc (.cells #[.int .i64 h1.k, .int .i64 h1.m, .int .i64 h1.e, .string h1.t, .slice ag G.len cg, .slice h1.na h1.ns.length h1.nc] 28)) := (Below.refl _ _).alloc (Nat.le_refl _) _
    have hsz : (w1.alloc (.cells #[.int .i64 h1.k, .int .i64 h1.m, .int .i64 h1.e, .string h1.t, .slice ag G.len cg, .slice h1.na h1.ns.length h1.nc] 28)).heap.size = w1.heap.size + 1 := by simp
    have hval2 := hval.below hbW
    have hR2 := hR1.below hbW
    have hbl2 := hval.blk
    refine hK.out _ _ trivial (fun _ => ?_)
    clear hK K hR1 hbW hO
    have HSZ : Hid ((w1.alloc (.cells #[.int .i64 h1.k, .int .i64 h1.m, .int .i64 h1.e, .string h1.t, .slice ag G.len cg, .slice h1.na h1.ns.length h1.nc] 28)).heap.size = w1.heap.size + 1) := hsz
    have HBL : Hid ((oneV h1 ag cg G).Blk (fun x => Wd.heap.size ≤ x ∧ x < w1.heap.size)) := hbl2
    clear hsz hbl2
    obtain ⟨g1, hg1⟩ : ∃ g, w1.heap.size = g := ⟨_, rfl⟩
    rw [hg1] at hel HSZ HBL ⊢
    generalize w1.alloc (.cells #[.int .i64 h1.k, .int .i64 h1.m, .int .i64 h1.e, .string h1.t, .slice ag G.len cg, .slice h1.na h1.ns.length h1.nc] 28) = w2 at *
    clear hg1 hval
    have hO := hO2
    clear hO2
    refine wpAnyH_ready (rs := [7]) (by kernel_rfl) (by simp) ?_
    refine AllReadyH.cons rfl (fun K hK => ?_) AllReadyH.nil
    have hown := HW.out _ hO
    refine wp_append_lie w2 _ _ 25 rfl B0 28 i0 _ 6 88 Try.underlying25 hi hz0 hz1 hz2 rfl (by decide) (.slice av n c) n F.cells rfl hown (some ⟨g1, 0, none⟩) 1 1 (six h1 ag G.len cg) rfl rfl (hel.src 1) six_one (by unfold maxLen; omega) (by omega) (by have := hO.1; omega) ?_
    intro v' w3 hown3 hgr hob
    rw [ownBlock_blkOf] at hgr hob
    have hO3 := (hO.otr (blkOf av)).grown hgr
    have hlt3 : ∀ g, blkOf av = some g → g < W.heap.size := fun g hg => by
      have h5 := (HW.out _ HOd.out).lt g (by rw [ownBlock_blkOf]; exact hg)
      have := HZ.out
      omega
    have hge3 : ∀ g, blkOf av = some g → B0 ≤ g := fun g hg => ((HW.out _ HOd.out).lt g (by rw [ownBlock_blkOf]; exact hg)).1
    have hval3 : ValS W.heap.size 3 (szF d) w3 h1 ag cg G := by rw [← HZ.out]; exact hval2.otr ((Otr.refl b (blkOf av) w2).grown hgr) (by have := HZ.out; omega) (fun g hg => by have := hlt3 g hg; have := HZ.out; omega)
    have hR3 : Rd w0 B b a len cap p1 w3 := hR2.uptoU (B' := B0) ((Below.refl _ _).grown hgr (by have := hO.1; omega) hge3) hbB (by have := hR2.base_leU; omega)
    have hS3 : w3.cell? ⟨vb, 4, none⟩ = some (.slice av n c) ∧ w3.frozen? ⟨vb, 4, none⟩ = false := ⟨(hgr.cell (HO.out _ hO).1 (fun e => by have := hge3 vb e.symm; omega)), by
      rw [World.frozen?_of_block (a := ⟨vb, 4, none⟩) (hgr.block vb (World.block_lt_of_cell? w2 _ (HO.out _ hO).1) (fun e => by have := hge3 vb e.symm; omega))]; exact (HO.out _ hO).2⟩
    have HC : Hid (w3.ownsRow B0 28 6 v' (n + 1) (F.app (oneV h1 ag cg G)).cells) := by unfold Hid; rw [Vo.app_cells, Vo.cells_oneV]; exact hown3
    have HOB : Hid (v'.ownBlock = blkOf av ∨ ∃ g, v'.ownBlock = some g ∧ W.heap.size ≤ g ∧ (oneV h1 ag cg G).Blk (fun x => x < g)) := by
      rcases hob with hob | hob
      · exact .inl hob
      · exact .inr ⟨_, hob, hO.1, HBL.out.mono (fun x hx => by have := HSZ.out; omega)⟩
    refine hK.out _ _ trivial (fun _ => ?_)
    clear hK K hown3 hgr hob hval2 hR2 hown hel hO
    (try simp only [Act.put, List.getElem_toArray, List.getElem_cons_zero, List.getElem_cons_succ, List.setIfInBounds_toArray, List.set_cons_zero, List.set_cons_succ])
    have hSw : (fun _ : World => True) w3 := trivial
    refine wpAnyH_take (i := 8) (v := .pointer (some ⟨vb, 4, none⟩)) rfl (by kernel_rfl) (by kernel_rfl) (by kernel_rfl) (fun _ _ _ h => hp _ _ _ _ _ h) (Or.inl ⟨by rfl, ?_⟩) (by assumption) ?_
    · intro w hSw
      (try dsimp only at hSw)
      go_simp
    (try simp only [Act.put, List.getElem_toArray, List.getElem_cons_zero, List.getElem_cons_succ, List.setIfInBounds_toArray, List.set_cons_zero, List.set_cons_succ])
    obtain ⟨g9, c9, rfl, _, _⟩ := HC.out.form (by omega)
    obtain ⟨hc3, hf3⟩ := hS3
    refine wpAnyH_ready (rs := [9]) (by kernel_rfl) (by simp) ?_
    refine AllReadyH.cons rfl (fun K hK => ?_) AllReadyH.nil
    go_simp
    refine hK.out _ _ trivial (fun _ => ?_)
    refine wpAnyH_done (by kernel_rfl) ?_ _
    exact h _ _ _ _ _ _ _ _ _ _ _ _ _ _ _ hO3 hR3 hp1 hval3 HC.out HOB.out
  · skip
    have hH := H p Wd HR.out hq
    go_simp
    refine hH.mono ?_
    rintro r w1 ⟨h1, G, ag, cg, p1, rfl, hval, hp1, hR1, hO1⟩
    have hO1' := HOd.out.trans hO1
    go_wp2_with fail
    refine hK.out _ _ trivial (fun _ => ?_)
    clear hK K hH hO hO1
    have hO := hO1'
    clear hO1'
    refine wpAnyH_ready (rs := [1, 6]) (by kernel_rfl) (by simp) ?_
    refine AllReadyH.cons rfl (fun K hK => ?_) (AllReadyH.cons rfl (fun K hK => ?_) AllReadyH.nil)
    · skip
      obtain ⟨hcl, _⟩ := HO.out _ hO
      go_simp
      refine hK.out _ _ trivial (fun _ => ?_)
      clear hK K hcl
      (try simp only [Act.put, List.getElem_toArray, List.getElem_cons_zero, List.getElem_cons_succ, List.setIfInBounds_toArray, List.set_cons_zero, List.set_cons_succ])
      refine wpAnyH_ready (rs := [6]) (by kernel_rfl) (by simp) ?_
      refine AllReadyH.cons rfl (fun K hK => ?_) AllReadyH.nil
      go_simp
      have hO2 := hO.alloc (.cells #[.int .i64 h1.k, .int .i64 h1.m, .int .i64 h1.e, .string h1.t, .slice ag G.len cg, .slice h1.na h1.ns.length h1.nc] 28)
      have hel : Own0 (w1.alloc (.cells #[.int .i64 h1.k, .int .i64 h1.m, .int .i64 h1.e, .string h1.t, .slice ag G.len cg, .slice h1.na h1.ns.length h1.nc] 28)) W.heap.size w1.heap.size (six h1 ag G.len cg) := Own0.new w1 W.heap.size [.int .i64 h1.k, .int .i64 h1.m, .int .i64 h1.e, .string h1.t, .slice ag G.len cg, .slice h1.na h1.ns.length h1.nc] 28 hO.1
      have hbW : Below w1.heap.size w1 (w1.alloc (.cells #[.int .i64 h1.k, .int .i64 h1.m, .int .i64 h1.e, .string h1.t, .slice ag G.len cg, .slice h1.na h1.ns.length h1.nc] 28)) := (Below.refl _ _).alloc (Nat.le_refl _) _
      have hsz : (w1.alloc (.cells #[.int .i64 h1.k, .int .i64 h1.m, .int .i64 h1.e, .string h1.t, .slice ag G.len cg, .slice h1.na h1.ns.length h1.nc] 28)).heap.size = w1.heap.size + 1 := by simp
      have hval2 := hval.below hbW
      have hR2 := hR1.below hbW
      have hbl2 := hval.blk
      refine hK.out _ _ trivial (fun _ => ?_)
      clear hK K hR1 hbW hO
      have HSZ : Hid ((w1.alloc (.cells #[.int .i64 h1.k, .int .i64 h1.m, .int .i64 h1.e, .string h1.t, .slice ag G.len cg, .slice h1.na h1.ns.length h1.nc] 28)).heap.size = w1.heap.size + 1) := hsz
      have HBL : Hid ((oneV h1 ag cg G).Blk (fun x => Wd.heap.size ≤ x ∧ x < w1.heap.size)) := hbl2
      clear hsz hbl2
      obtain ⟨g1, hg1⟩ : ∃ g, w1.heap.size = g := ⟨_, rfl⟩
      rw [hg1] at hel HSZ HBL ⊢
      generalize w1.alloc (.cells #[.int .i64 h1.k, .int .i64 h1.m, .int .i64 h1.e, .string h1.t, .slice ag G.len cg, .slice h1.na h1.ns.length h1.nc] 28) = w2 at *
      clear hg1 hval
      have hO := hO2
      clear hO2
      refine wpAnyH_ready (rs := [7]) (by kernel_rfl) (by simp) ?_
      refine AllReadyH.cons rfl (fun K hK => ?_) AllReadyH.nil
      have hown := HW.out _ hO
      refine wp_append_lie w2 _ _ 25 rfl B0 28 i0 _ 6 88 Try.underlying25 hi hz0 hz1 hz2 rfl (by decide) (.slice av n c) n F.cells rfl hown (some ⟨g1, 0, none⟩) 1 1 (six h1 ag G.len cg) rfl rfl (hel.src 1) six_one (by unfold maxLen; omega) (by omega) (by have := hO.1; omega) ?_
      intro v' w3 hown3 hgr hob
      rw [ownBlock_blkOf] at hgr hob
      have hO3 := (hO.otr (blkOf av)).grown hgr
      have hlt3 : ∀ g, blkOf av = some g → g < W.heap.size := fun g hg => by
        have h5 := (HW.out _ HOd.out).lt g (by rw [ownBlock_blkOf]; exact hg)
        have := HZ.out
        omega
      have hge3 : ∀ g, blkOf av = some g → B0 ≤ g := fun g hg => ((HW.out _ HOd.out).lt g (by rw [ownBlock_blkOf]; exact hg)).1
      have hval3 : ValS W.heap.size 3 (szF d) w3 h1 ag cg G := by rw [← HZ.out]; exact hval2.otr ((Otr.refl b (blkOf av) w2).grown hgr) (by have := HZ.out; omega) (fun g hg => by have := hlt3 g hg; have := HZ.out; omega)
      have hR3 : Rd w0 B b a len cap p1 w3 := hR2.uptoU (B' := B0) ((Below.refl _ _).grown hgr (by have := hO.1; omega) hge3) hbB (by have := hR2.base_leU; omega)
      have hS3 : w3.cell? ⟨vb, 4, none⟩ = some (.slice av n c) ∧ w3.frozen? ⟨vb, 4, none⟩ = false := ⟨(hgr.cell (HO.out _ hO).1 (fun e => by have := hge3 vb e.symm; omega)), by
        rw [World.frozen?_of_block (a := ⟨vb, 4, none⟩) (hgr.block vb (World.block_lt_of_cell? w2 _ (HO.out _ hO).1) (fun e => by have := hge3 vb e.symm; omega))]; exact (HO.out _ hO).2⟩
      have HC : Hid (w3.ownsRow B0 28 6 v' (n + 1) (F.app (oneV h1 ag cg G)).cells) := by unfold Hid; rw [Vo.app_cells, Vo.cells_oneV]; exact hown3
      have HOB : Hid (v'.ownBlock = blkOf av ∨ ∃ g, v'.ownBlock = some g ∧ W.heap.size ≤ g ∧ (oneV h1 ag cg G).Blk (fun x => x < g)) := by
        rcases hob with hob | hob
        · exact .inl hob
        · exact .inr ⟨_, hob, hO.1, HBL.out.mono (fun x hx => by have := HSZ.out; omega)⟩
      refine hK.out _ _ trivial (fun _ => ?_)
      clear hK K hown3 hgr hob hval2 hR2 hown hel hO
      (try simp only [Act.put, List.getElem_toArray, List.getElem_cons_zero, List.getElem_cons_succ, List.setIfInBounds_toArray, List.set_cons_zero, List.set_cons_succ])
      have hSw : (fun _ : World => True) w3 := trivial
      refine wpAnyH_take (i := 8) (v := .pointer (some ⟨vb, 4, none⟩)) rfl (by kernel_rfl) (by kernel_rfl) (by kernel_rfl) (fun _ _ _ h => hp _ _ _ _ _ h) (Or.inl ⟨by rfl, ?_⟩) (by assumption) ?_
      · intro w hSw
        (try dsimp only at hSw)
        go_simp
      (try simp only [Act.put, List.getElem_toArray, List.getElem_cons_zero, List.getElem_cons_succ, List.setIfInBounds_toArray, List.set_cons_zero, List.set_cons_succ])
      obtain ⟨g9, c9, rfl, _, _⟩ := HC.out.form (by omega)
      obtain ⟨hc3, hf3⟩ := hS3
      refine wpAnyH_ready (rs := [9]) (by kernel_rfl) (by simp) ?_
      refine AllReadyH.cons rfl (fun K hK => ?_) AllReadyH.nil
      go_simp
      refine hK.out _ _ trivial (fun _ => ?_)
      refine wpAnyH_done (by kernel_rfl) ?_ _
      exact h _ _ _ _ _ _ _ _ _ _ _ _ _ _ _ hO3 hR3 hp1 hval3 HC.out HOB.out
    · skip
      go_simp
      have hO2 := hO.alloc (.cells #[.int .i64 h1.k, .int .i64 h1.m, .int .i64 h1.e, .string h1.t, .slice ag G.len cg, .slice h1.na h1.ns.length h1.nc] 28)
      have hel : Own0 (w1.alloc (.cells #[.int .i64 h1.k, .int .i64 h1.m, .int .i64 h1.e, .string h1.t, .slice ag G.len cg, .slice h1.na h1.ns.length h1.nc] 28)) W.heap.size w1.heap.size (six h1 ag G.len cg) := Own0.new w1 W.heap.size [.int .i64 h1.k, .int .i64 h1.m, .int .i64 h1.e, .string h1.t, .slice ag G.len cg, .slice h1.na h1.ns.length h1.nc] 28 hO.1
      have hbW : Below w1.heap.size w1 (w1.alloc (.cells #[.int .i64 h1.k, .int .i64 h1.m, .int .i64 h1.e, .string h1.t, .slice ag G.len cg, .slice h1.na h1.ns.length h1.nc] 28)) := (Below.refl _ _).alloc (Nat.le_refl _) _
      have hsz : (w1.alloc (.cells #[.int .i64 h1.k, .int .i64 h1.m, .int .i64 h1.e, .string h1.t, .slice ag G.len cg, .slice h1.na h1.ns.length h1.nc] 28)).heap.size = w1.heap.size + 1 := by simp
      have hval2 := hval.below hbW
      have hR2 := hR1.below hbW
      have hbl2 := hval.blk
      refine hK.out _ _ trivial (fun _ => ?_)
      clear hK K hR1 hbW hO
      have HSZ : Hid ((w1.alloc (.cells #[.int .i64 h1.k, .int .i64 h1.m, .int .i64 h1.e, .string h1.t, .slice ag G.len cg, .slice h1.na h1.ns.length h1.nc] 28)).heap.size = w1.heap.size + 1) := hsz
      have HBL : Hid ((oneV h1 ag cg G).Blk (fun x => Wd.heap.size ≤ x ∧ x < w1.heap.size)) := hbl2
      clear hsz hbl2
      obtain ⟨g1, hg1⟩ : ∃ g, w1.heap.size = g := ⟨_, rfl⟩
      rw [hg1] at hel HSZ HBL ⊢
      generalize w1.alloc (.cells #[.int .i64 h1.k, .int .i64 h1.m, .int .i64 h1.e, .string h1.t, .slice ag G.len cg, .slice h1.na h1.ns.length h1.nc] 28) = w2 at *
      clear hg1 hval
      have hO := hO2
      clear hO2
      refine wpAnyH_ready (rs := [1]) (by kernel_rfl) (by simp) ?_
      refine AllReadyH.cons rfl (fun K hK => ?_) AllReadyH.nil
      obtain ⟨hcl, _⟩ := HO.out _ hO
      go_simp
      refine hK.out _ _ trivial (fun _ => ?_)
      clear hK K hcl
      (try simp only [Act.put, List.getElem_toArray, List.getElem_cons_zero, List.getElem_cons_succ, List.setIfInBounds_toArray, List.set_cons_zero, List.set_cons_succ])
      refine wpAnyH_ready (rs := [7]) (by kernel_rfl) (by simp) ?_
      refine AllReadyH.cons rfl (fun K hK => ?_) AllReadyH.nil
      have hown := HW.out _ hO
      refine wp_append_lie w2 _ _ 25 rfl B0 28 i0 _ 6 88 Try.underlying25 hi hz0 hz1 hz2 rfl (by decide) (.slice av n c) n F.cells rfl hown (some ⟨g1, 0, none⟩) 1 1 (six h1 ag G.len cg) rfl rfl (hel.src 1) six_one (by unfold maxLen; omega) (by omega) (by have := hO.1; omega) ?_
      intro v' w3 hown3 hgr hob
      rw [ownBlock_blkOf] at hgr hob
      have hO3 := (hO.otr (blkOf av)).grown hgr
      have hlt3 : ∀ g, blkOf av = some g → g < W.heap.size := fun g hg => by
        have h5 := (HW.out _ HOd.out).lt g (by rw [ownBlock_blkOf]; exact hg)
        have := HZ.out
        omega
      have hge3 : ∀ g, blkOf av = some g → B0 ≤ g := fun g hg => ((HW.out _ HOd.out).lt g (by rw [ownBlock_blkOf]; exact hg)).1
      have hval3 : ValS W.heap.size 3 (szF d) w3 h1 ag cg G := by rw [← HZ.out]; exact hval2.otr ((Otr.refl b (blkOf av) w2).grown hgr) (by have := HZ.out; omega) (fun g hg => by have := hlt3 g hg; have := HZ.out; omega)
      have hR3 : Rd w0 B b a len cap p1 w3 := hR2.uptoU (B' := B0) ((Below.refl _ _).grown hgr (by have := hO.1; omega) hge3) hbB (by have := hR2.base_leU; omega)
      have hS3 : w3.cell? ⟨vb, 4, none⟩ = some (.slice av n c) ∧ w3.frozen? ⟨vb, 4, none⟩ = false := ⟨(hgr.cell (HO.out _ hO).1 (fun e => by have := hge3 vb e.symm; omega)), by
        rw [World.frozen?_of_block (a := ⟨vb, 4, none⟩) (hgr.block vb (World.block_lt_of_cell? w2 _ (HO.out _ hO).1) (fun e => by have := hge3 vb e.symm; omega))]; exact (HO.out _ hO).2⟩
      have HC : Hid (w3.ownsRow B0 28 6 v' (n + 1) (F.app (oneV h1 ag cg G)).cells) := by unfold Hid; rw [Vo.app_cells, Vo.cells_oneV]; exact hown3
      have HOB : Hid (v'.ownBlock = blkOf av ∨ ∃ g, v'.ownBlock = some g ∧ W.heap.size ≤ g ∧ (oneV h1 ag cg G).Blk (fun x => x < g)) := by
        rcases hob with hob | hob
        · exact .inl hob
        · exact .inr ⟨_, hob, hO.1, HBL.out.mono (fun x hx => by have := HSZ.out; omega)⟩
      refine hK.out _ _ trivial (fun _ => ?_)
      clear hK K hown3 hgr hob hval2 hR2 hown hel hO
      (try simp only [Act.put, List.getElem_toArray, List.getElem_cons_zero, List.getElem_cons_succ, List.setIfInBounds_toArray, List.set_cons_zero, List.set_cons_succ])
      have hSw : (fun _ : World => True) w3 := trivial
      refine wpAnyH_take (i := 8) (v := .pointer (some ⟨vb, 4, none⟩)) rfl (by kernel_rfl) (by kernel_rfl) (by kernel_rfl) (fun _ _ _ h => hp _ _ _ _ _ h) (Or.inl ⟨by rfl, ?_⟩) (by assumption) ?_
      · intro w hSw
        (try dsimp only at hSw)
        go_simp
      (try simp only [Act.put, List.getElem_toArray, List.getElem_cons_zero, List.getElem_cons_succ, List.setIfInBounds_toArray, List.set_cons_zero, List.set_cons_succ])
      obtain ⟨g9, c9, rfl, _, _⟩ := HC.out.form (by omega)
      obtain ⟨hc3, hf3⟩ := hS3
      refine wpAnyH_ready (rs := [9]) (by kernel_rfl) (by simp) ?_
      refine AllReadyH.cons rfl (fun K hK => ?_) AllReadyH.nil
      go_simp
      refine hK.out _ _ trivial (fun _ => ?_)
      refine wpAnyH_done (by kernel_rfl) ?_ _
      exact h _ _ _ _ _ _ _ _ _ _ _ _ _ _ _ hO3 hR3 hp1 hval3 HC.out HOB.out
end Go.Proofs.Ytfgchdnpbbgmjaa
/- Drawn values: l14Flat. -/
namespace Go.Proofs.Ytfgchdnpbbgmjaa
open Go.RowKit
attribute [local go_sem] cell_alloc_is frozen_alloc_is
theorem nil_of_size {F : Vo} (h : F.size ≤ 0) : F = .nil := by
  cases F with
  | nil => rfl
  | cons h0 a0 c0 k0 n0 => exact absurd h (by show ¬ k0.size + 1 + n0.size ≤ 0; omega)
theorem ValS.kind1 {B0 L M : Nat} {w : World} {h : Hd} {a : Option Addr} {c : Nat} {F : Vo} (x : ValS B0 L M w h a c F) : ValS B0 L M w (Hd.mk 1 h.m h.e h.t h.na h.nc h.ns) a c F := by
  obtain ⟨⟨⟨h1, h2, h3, h4, h5, h6⟩, h7⟩, h8⟩ := x
  exact ⟨⟨⟨h1, h2, h3, h4, fun e => absurd (show (1 : Int) = 6 from e) (by decide), h6⟩, h7⟩, h8⟩
/-- another kind, in a cell that is not of its lists -/
theorem ValS.kind {B0 L M vb : Nat} {w : World} {h : Hd} {a : Option Addr} {c : Nat} (x : ValS B0 L M w h a c .nil) (k : Int) (ha : blkOf a ≠ some vb) (hn : blkOf h.na ≠ some vb) (u : Value) : ValS B0 L M (w.setCell ⟨vb, 0, none⟩ u) ⟨k, h.m, h.e, h.t, h.na, h.nc, h.ns⟩ a c .nil := by
  obtain ⟨⟨⟨h01, h02, h03, _⟩, h04⟩, h6, h1, _, _⟩ := x
  exact ⟨⟨⟨h01, h02, h03, ⟨trivial, fun _ => Nat.zero_le _, trivial⟩⟩, h04⟩, own_set h6 (fun g hg e => ha (by rw [← ownBlock_blkOf]; rw [hg, e])) u, own_set h1 (fun g hg e => hn (by rw [← ownBlock_blkOf]; rw [hg, e])) u, ⟨trivial, trivial⟩, trivial⟩

set_option maxRecDepth 100000 in
set_option maxHeartbeats 1000000 in
theorem l14Flat_zero {w0 : World} {B b : Nat} {a : Option Addr} {len cap : Nat} : FlatC w0 B b a len cap 0 := by
  intro p W hR hp
  have hp1 : p + 40 ≤ 70000 := hp
  clear hp
  have hlt := hR.lt
  have hne : ¬ W.heap.size = b := by omega
  have Z0 : Row (W.alloc (.cells #[.int .i64 0, .int .i64 0, .int .i64 0, .string ⟨#[]⟩, .slice none 0 0, .slice none 0 0] 28)) W.heap.size zero6 := Row.new W zero6 28
  have R0 := hR.below ((Below.refl _ W).alloc (Nat.le_refl _) (.cells #[.int .i64 0, .int .i64 0, .int .i64 0, .string ⟨#[]⟩, .slice none 0 0, .slice none 0 0] 28))
  have O0 := (Otb.refl b W).alloc (.cells #[.int .i64 0, .int .i64 0, .int .i64 0, .string ⟨#[]⟩, .slice none 0 0, .slice none 0 0] 28)
  have hz0 : W.heap.size < (W.alloc (.cells #[.int .i64 0, .int .i64 0, .int .i64 0, .string ⟨#[]⟩, .slice none 0 0, .slice none 0 0] 28)).heap.size := by simp
  clear hR
  go_enter Try.func48, Try.ntmps48
  go_wp2_with fail
  generalize W.alloc (.cells #[.int .i64 0, .int .i64 0, .int .i64 0, .string ⟨#[]⟩, .slice none 0 0, .slice none 0 0] 28) = W1 at *
  have hl14 := l14Value_any (w0 := w0) (B := B) (b := b) (a := a) (len := len) (cap := cap) 0 (by omega) p W1 R0 (by show p + ((30 : Nat) : Int) ≤ 80000; omega)
  refine hl14.mono ?_
  rintro r w2 ⟨hV, F, av, c, p2, rfl, hval, hp2, R2, O12⟩
  have hp3 : p2 ≤ p + 30 := hp2
  obtain rfl := nil_of_size hval.1.1.2.1
  have Z2 : Row w2 W.heap.size zero6 := Row.otb O12 hne Z0
  have O2 := O0.trans O12
  have hz2 : W.heap.size < w2.heap.size := Nat.lt_of_lt_of_le hz0 O12.1
  have hna : blkOf av ≠ some w2.heap.size := fun e => by have := (hval.2.1.lt _ (by rw [ownBlock_blkOf]; exact e)).2; omega
  have hnn : blkOf hV.na ≠ some w2.heap.size := fun e => by have := (hval.2.2.1.lt _ (by rw [ownBlock_blkOf]; exact e)).2; omega
  have hval1 : ValS (W.heap.size + 1) 3 0 w2 hV av c .nil := hval.mono (by omega) (Nat.le_refl _) (Nat.le_refl _)
  have hbB : b < W.heap.size + 1 := by omega
  clear hl14 Z0 R0 O0 O12 hz0 hval hp2
  have hk : (hV.k == 0) = true ∨ (hV.k == 0) = false := by cases (hV.k == 0) <;> simp
  obtain ⟨r0, g0⟩ := Z2 0 _ rfl
  obtain ⟨r1, g1⟩ := Z2 1 _ rfl
  obtain ⟨r2, g2⟩ := Z2 2 _ rfl
  obtain ⟨r3, g3⟩ := Z2 3 _ rfl
  obtain ⟨r4, g4⟩ := Z2 4 _ rfl
  obtain ⟨r5, g5⟩ := Z2 5 _ rfl
  clear hna hnn
  rcases hk with hk | hk
  · have hbp : Below W.heap.size w2 (put6 w2 W.heap.size 0 (.int .i64 1) (.int .i64 hV.m) (.int .i64 hV.e) (.string hV.t) (.slice av 0 c) (.slice hV.na hV.ns.length hV.nc)) := put6_below (Below.refl _ _) (Nat.le_refl _) _ _ _ _ _ _
    have hba : Below (put6 w2 W.heap.size 0 (.int .i64 1) (.int .i64 hV.m) (.int .i64 hV.e) (.string hV.t) (.slice av 0 c) (.slice hV.na hV.ns.length hV.nc)).heap.size (put6 w2 W.heap.size 0 (.int .i64 1) (.int .i64 hV.m) (.int .i64 hV.e) (.string hV.t) (.slice av 0 c) (.slice hV.na hV.ns.length hV.nc)) ((put6 w2 W.heap.size 0 (.int .i64 1) (.int .i64 hV.m) (.int .i64 hV.e) (.string hV.t) (.slice av 0 c) (.slice hV.na hV.ns.length hV.nc)).alloc (.cells #[.int .i64 1, .int .i64 hV.m, .int .i64 hV.e, .string hV.t, .slice av 0 c, .slice hV.na hV.ns.length hV.nc] 28)) := (Below.refl _ _).alloc (Nat.le_refl _) _
    have HP6 : Row ((put6 w2 W.heap.size 0 (.int .i64 1) (.int .i64 hV.m) (.int .i64 hV.e) (.string hV.t) (.slice av 0 c) (.slice hV.na hV.ns.length hV.nc)).alloc (.cells #[.int .i64 1, .int .i64 hV.m, .int .i64 hV.e, .string hV.t, .slice av 0 c, .slice hV.na hV.ns.length hV.nc] 28)) W.heap.size (six (Hd.mk 1 hV.m hV.e hV.t hV.na hV.nc hV.ns) av 0 c) := (Row.put6 Z2).below hba (by rw [put6_size]; exact hz2)
    have hb9 := R2.base_leU
    have S9 := (hval1.otr (Otr.put6 b (j := W.heap.size) (o := 0) w2 (.int .i64 1) (.int .i64 hV.m) (.int .i64 hV.e) (.string hV.t) (.slice av 0 c) (.slice hV.na hV.ns.length hV.nc)) hbB (fun g hg => by cases hg; omega)).below hba
    have S10 : ValS (W.heap.size + 1) 3 0 ((put6 w2 W.heap.size 0 (.int .i64 1) (.int .i64 hV.m) (.int .i64 hV.e) (.string hV.t) (.slice av 0 c) (.slice hV.na hV.ns.length hV.nc)).alloc (.cells #[.int .i64 1, .int .i64 hV.m, .int .i64 hV.e, .string hV.t, .slice av 0 c, .slice hV.na hV.ns.length hV.nc] 28)) (Hd.mk 1 hV.m hV.e hV.t hV.na hV.nc hV.ns) av c .nil := by first | exact S9.kind1 | exact S9
    have HS10 : Hid (ValS W.heap.size 3 (szF 0) ((put6 w2 W.heap.size 0 (.int .i64 1) (.int .i64 hV.m) (.int .i64 hV.e) (.string hV.t) (.slice av 0 c) (.slice hV.na hV.ns.length hV.nc)).alloc (.cells #[.int .i64 1, .int .i64 hV.m, .int .i64 hV.e, .string hV.t, .slice av 0 c, .slice hV.na hV.ns.length hV.nc] 28)) (Hd.mk 1 hV.m hV.e hV.t hV.na hV.nc hV.ns) av c .nil ∧ Rd w0 B b a len cap _ ((put6 w2 W.heap.size 0 (.int .i64 1) (.int .i64 hV.m) (.int .i64 hV.e) (.string hV.t) (.slice av 0 c) (.slice hV.na hV.ns.length hV.nc)).alloc (.cells #[.int .i64 1, .int .i64 hV.m, .int .i64 hV.e, .string hV.t, .slice av 0 c, .slice hV.na hV.ns.length hV.nc] 28)) ∧ Otb b W ((put6 w2 W.heap.size 0 (.int .i64 1) (.int .i64 hV.m) (.int .i64 hV.e) (.string hV.t) (.slice av 0 c) (.slice hV.na hV.ns.length hV.nc)).alloc (.cells #[.int .i64 1, .int .i64 hV.m, .int .i64 hV.e, .string hV.t, .slice av 0 c, .slice hV.na hV.ns.length hV.nc] 28))) := ⟨S10.mono (by omega) (Nat.le_refl _) (Nat.zero_le _), (R2.uptoU hbp hlt (by omega)).below hba, (O2.upto hbp).below hba⟩
    clear hbp hba R2 O2 Z2 S9 S10 hval1
    go_wp2_with fail
    show bodyPost Try.prog Try.f48 _ Exit.ret _ ((put6 w2 W.heap.size 0 (.int .i64 1) (.int .i64 hV.m) (.int .i64 hV.e) (.string hV.t) (.slice av 0 c) (.slice hV.na hV.ns.length hV.nc)).alloc (.cells #[.int .i64 1, .int .i64 hV.m, .int .i64 hV.e, .string hV.t, .slice av 0 c, .slice hV.na hV.ns.length hV.nc] 28))
    generalize (put6 w2 W.heap.size 0 (.int .i64 1) (.int .i64 hV.m) (.int .i64 hV.e) (.string hV.t) (.slice av 0 c) (.slice hV.na hV.ns.length hV.nc)).alloc (.cells #[.int .i64 1, .int .i64 hV.m, .int .i64 hV.e, .string hV.t, .slice av 0 c, .slice hV.na hV.ns.length hV.nc] 28) = W6 at *
    have y0 := (HP6 0 _ rfl).1
    have y1 := (HP6 1 _ rfl).1
    have y2 := (HP6 2 _ rfl).1
    have y3 := (HP6 3 _ rfl).1
    have y4 := (HP6 4 _ rfl).1
    have y5 := (HP6 5 _ rfl).1
    obtain ⟨z1, z2, z3⟩ := HS10.out
    refine bodyPost_ret (v := valV (Hd.mk 1 hV.m hV.e hV.t hV.na hV.nc hV.ns) av Vo.nil.len c) (by simp [results, Try.results48, go_sem, y0, y1, y2, y3, y4, y5, Vo.len]) rfl (by first | exact ⟨(Hd.mk 1 hV.m hV.e hV.t hV.na hV.nc hV.ns), .nil, av, c, _, rfl, z1, (by show _ ≤ p + ((40 : Nat) : Int); omega), z2, z3⟩ | exact ⟨(Hd.mk 1 hV.m hV.e hV.t hV.na hV.nc hV.ns), .nil, av, c, rfl, z1, _, (by show _ ≤ p + ((40 : Nat) : Int); omega), z2, z3⟩)
  · have hbp : Below W.heap.size w2 (put6 w2 W.heap.size 0 (.int .i64 hV.k) (.int .i64 hV.m) (.int .i64 hV.e) (.string hV.t) (.slice av 0 c) (.slice hV.na hV.ns.length hV.nc)) := put6_below (Below.refl _ _) (Nat.le_refl _) _ _ _ _ _ _
    have hba : Below (put6 w2 W.heap.size 0 (.int .i64 hV.k) (.int .i64 hV.m) (.int .i64 hV.e) (.string hV.t) (.slice av 0 c) (.slice hV.na hV.ns.length hV.nc)).heap.size (put6 w2 W.heap.size 0 (.int .i64 hV.k) (.int .i64 hV.m) (.int .i64 hV.e) (.string hV.t) (.slice av 0 c) (.slice hV.na hV.ns.length hV.nc)) ((put6 w2 W.heap.size 0 (.int .i64 hV.k) (.int .i64 hV.m) (.int .i64 hV.e) (.string hV.t) (.slice av 0 c) (.slice hV.na hV.ns.length hV.nc)).alloc (.cells #[.int .i64 hV.k, .int .i64 hV.m, .int .i64 hV.e, .string hV.t, .slice av 0 c, .slice hV.na hV.ns.length hV.nc] 28)) := (Below.refl _ _).alloc (Nat.le_refl _) _
    have HP6 : Row ((put6 w2 W.heap.size 0 (.int .i64 hV.k) (.int .i64 hV.m) (.int .i64 hV.e) (.string hV.t) (.slice av 0 c) (.slice hV.na hV.ns.length hV.nc)).alloc (.cells #[.int .i64 hV.k, .int .i64 hV.m, .int .i64 hV.e, .string hV.t, .slice av 0 c, .slice hV.na hV.ns.length hV.nc] 28)) W.heap.size (six (Hd.mk hV.k hV.m hV.e hV.t hV.na hV.nc hV.ns) av 0 c) := (Row.put6 Z2).below hba (by rw [put6_size]; exact hz2)
    have hb9 := R2.base_leU
    have S9 := (hval1.otr (Otr.put6 b (j := W.heap.size) (o := 0) w2 (.int .i64 hV.k) (.int .i64 hV.m) (.int .i64 hV.e) (.string hV.t) (.slice av 0 c) (.slice hV.na hV.ns.length hV.nc)) hbB (fun g hg => by cases hg; omega)).below hba
    have S10 : ValS (W.heap.size + 1) 3 0 ((put6 w2 W.heap.size 0 (.int .i64 hV.k) (.int .i64 hV.m) (.int .i64 hV.e) (.string hV.t) (.slice av 0 c) (.slice hV.na hV.ns.length hV.nc)).alloc (.cells #[.int .i64 hV.k, .int .i64 hV.m, .int .i64 hV.e, .string hV.t, .slice av 0 c, .slice hV.na hV.ns.length hV.nc] 28)) (Hd.mk hV.k hV.m hV.e hV.t hV.na hV.nc hV.ns) av c .nil := by first | exact S9.kind1 | exact S9
    have HS10 : Hid (ValS W.heap.size 3 (szF 0) ((put6 w2 W.heap.size 0 (.int .i64 hV.k) (.int .i64 hV.m) (.int .i64 hV.e) (.string hV.t) (.slice av 0 c) (.slice hV.na hV.ns.length hV.nc)).alloc (.cells #[.int .i64 hV.k, .int .i64 hV.m, .int .i64 hV.e, .string hV.t, .slice av 0 c, .slice hV.na hV.ns.length hV.nc] 28)) (Hd.mk hV.k hV.m hV.e hV.t hV.na hV.nc hV.ns) av c .nil ∧ Rd w0 B b a len cap _ ((put6 w2 W.heap.size 0 (.int .i64 hV.k) (.int .i64 hV.m) (.int .i64 hV.e) (.string hV.t) (.slice av 0 c) (.slice hV.na hV.ns.length hV.nc)).alloc (.cells #[.int .i64 hV.k, .int .i64 hV.m, .int .i64 hV.e, .string hV.t, .slice av 0 c, .slice hV.na hV.ns.length hV.nc] 28)) ∧ Otb b W ((put6 w2 W.heap.size 0 (.int .i64 hV.k) (.int .i64 hV.m) (.int .i64 hV.e) (.string hV.t) (.slice av 0 c) (.slice hV.na hV.ns.length hV.nc)).alloc (.cells #[.int .i64 hV.k, .int .i64 hV.m, .int .i64 hV.e, .string hV.t, .slice av 0 c, .slice hV.na hV.ns.length hV.nc] 28))) := ⟨S10.mono (by omega) (Nat.le_refl _) (Nat.zero_le _), (R2.uptoU hbp hlt (by omega)).below hba, (O2.upto hbp).below hba⟩
    clear hbp hba R2 O2 Z2 S9 S10 hval1
    go_wp2_with fail
    show bodyPost Try.prog Try.f48 _ Exit.ret _ ((put6 w2 W.heap.size 0 (.int .i64 hV.k) (.int .i64 hV.m) (.int .i64 hV.e) (.string hV.t) (.slice av 0 c) (.slice hV.na hV.ns.length hV.nc)).alloc (.cells #[.int .i64 hV.k, .int .i64 hV.m, .int .i64 hV.e, .string hV.t, .slice av 0 c, .slice hV.na hV.ns.length hV.nc] 28))
    generalize (put6 w2 W.heap.size 0 (.int .i64 hV.k) (.int .i64 hV.m) (.int .i64 hV.e) (.string hV.t) (.slice av 0 c) (.slice hV.na hV.ns.length hV.nc)).alloc (.cells #[.int .i64 hV.k, .int .i64 hV.m, .int .i64 hV.e, .string hV.t, .slice av 0 c, .slice hV.na hV.ns.length hV.nc] 28) = W6 at *
    have y0 := (HP6 0 _ rfl).1
    have y1 := (HP6 1 _ rfl).1
    have y2 := (HP6 2 _ rfl).1
    have y3 := (HP6 3 _ rfl).1
    have y4 := (HP6 4 _ rfl).1
    have y5 := (HP6 5 _ rfl).1
    obtain ⟨z1, z2, z3⟩ := HS10.out
    refine bodyPost_ret (v := valV (Hd.mk hV.k hV.m hV.e hV.t hV.na hV.nc hV.ns) av Vo.nil.len c) (by simp [results, Try.results48, go_sem, y0, y1, y2, y3, y4, y5, Vo.len]) rfl (by first | exact ⟨(Hd.mk hV.k hV.m hV.e hV.t hV.na hV.nc hV.ns), .nil, av, c, _, rfl, z1, (by show _ ≤ p + ((40 : Nat) : Int); omega), z2, z3⟩ | exact ⟨(Hd.mk hV.k hV.m hV.e hV.t hV.na hV.nc hV.ns), .nil, av, c, rfl, z1, _, (by show _ ≤ p + ((40 : Nat) : Int); omega), z2, z3⟩)
set_option maxRecDepth 100000 in
set_option maxHeartbeats 1000000 in
theorem l14Flat_next {w0 : World} {B b : Nat} {a : Option Addr} {len cap d : Nat} (hd : d ≤ 900) (H : FlatC w0 B b a len cap d) : FlatC w0 B b a len cap (d + 1) := by
  intro p W hR hp
  obtain ⟨D, hD⟩ : ∃ D : Int, D = (d : Int) + 1 := ⟨_, rfl⟩
  have hd0 : 0 < D := by omega
  have HDD : Hid (D = (d : Int) + 1) := hD
  rw [show ((((d + 1 : Nat)) : Int)) = D by omega]
  clear hD
  have HP : Hid (pkF (d + 1) = 40 + 2 * (pkF d + 4)) := rfl
  have hp1 : p + 40 + 2 * (pkF d + 4) ≤ 70000 := by have := HP.out; omega
  clear hp
  have hlt := hR.lt
  have hne : ¬ W.heap.size = b := by omega
  have Z0 : Row (W.alloc (.cells #[.int .i64 0, .int .i64 0, .int .i64 0, .string ⟨#[]⟩, .slice none 0 0, .slice none 0 0] 28)) W.heap.size zero6 := Row.new W zero6 28
  have R0 := hR.below ((Below.refl _ W).alloc (Nat.le_refl _) (.cells #[.int .i64 0, .int .i64 0, .int .i64 0, .string ⟨#[]⟩, .slice none 0 0, .slice none 0 0] 28))
  have O0 := (Otb.refl b W).alloc (.cells #[.int .i64 0, .int .i64 0, .int .i64 0, .string ⟨#[]⟩, .slice none 0 0, .slice none 0 0] 28)
  have hz0 : W.heap.size < (W.alloc (.cells #[.int .i64 0, .int .i64 0, .int .i64 0, .string ⟨#[]⟩, .slice none 0 0, .slice none 0 0] 28)).heap.size := by simp
  clear hR
  go_enter Try.func48, Try.ntmps48
  go_wp2_with fail
  generalize W.alloc (.cells #[.int .i64 0, .int .i64 0, .int .i64 0, .string ⟨#[]⟩, .slice none 0 0, .slice none 0 0] 28) = W1 at *
  have hl14 := l14Value_any (w0 := w0) (B := B) (b := b) (a := a) (len := len) (cap := cap) 0 (by omega) p W1 R0 (by show p + ((30 : Nat) : Int) ≤ 80000; omega)
  refine hl14.mono ?_
  rintro r w2 ⟨hV, F, av, c, p2, rfl, hval, hp2, R2, O12⟩
  have hp3 : p2 ≤ p + 30 := hp2
  obtain rfl := nil_of_size hval.1.1.2.1
  have Z2 : Row w2 W.heap.size zero6 := Row.otb O12 hne Z0
  have O2 := O0.trans O12
  have hz2 : W.heap.size < w2.heap.size := Nat.lt_of_lt_of_le hz0 O12.1
  have hna : blkOf av ≠ some w2.heap.size := fun e => by have := (hval.2.1.lt _ (by rw [ownBlock_blkOf]; exact e)).2; omega
  have hnn : blkOf hV.na ≠ some w2.heap.size := fun e => by have := (hval.2.2.1.lt _ (by rw [ownBlock_blkOf]; exact e)).2; omega
  have hval1 : ValS (W.heap.size + 1) 3 0 w2 hV av c .nil := hval.mono (by omega) (Nat.le_refl _) (Nat.le_refl _)
  have hbB : b < W.heap.size + 1 := by omega
  clear hl14 Z0 R0 O0 O12 hz0 hval hp2
  have hk : (hV.k == 0) = true ∨ (hV.k == 0) = false := by cases (hV.k == 0) <;> simp
  have HH : Hid (FlatC w0 B b a len cap d) := H
  clear H hna hnn
  rcases hk with hk | hk
  · skip
    have hbW : Below w2.heap.size w2 (w2.alloc (.cells #[.int .i64 1, .int .i64 hV.m, .int .i64 hV.e, .string hV.t, .slice av Vo.nil.len c, .slice hV.na hV.ns.length hV.nc] 28)) := (Below.refl _ _).alloc (Nat.le_refl _) _
    have V3 : Row (w2.alloc (.cells #[.int .i64 1, .int .i64 hV.m, .int .i64 hV.e, .string hV.t, .slice av Vo.nil.len c, .slice hV.na hV.ns.length hV.nc] 28)) w2.heap.size (six (Hd.mk 1 hV.m hV.e hV.t hV.na hV.nc hV.ns) av 0 c) := Row.new w2 _ _
    have Z3 := Z2.below hbW hz2
    have R3 := R2.below hbW
    have O3 := O2.alloc (.cells #[.int .i64 1, .int .i64 hV.m, .int .i64 hV.e, .string hV.t, .slice av Vo.nil.len c, .slice hV.na hV.ns.length hV.nc] 28)
    have S3a := hval1.below hbW
    have S3 : ValS (W.heap.size + 1) 3 0 (w2.alloc (.cells #[.int .i64 1, .int .i64 hV.m, .int .i64 hV.e, .string hV.t, .slice av Vo.nil.len c, .slice hV.na hV.ns.length hV.nc] 28)) (Hd.mk 1 hV.m hV.e hV.t hV.na hV.nc hV.ns) av c .nil := by first | exact S3a.kind1 | exact S3a
    have hsz : w2.heap.size < (w2.alloc (.cells #[.int .i64 1, .int .i64 hV.m, .int .i64 hV.e, .string hV.t, .slice av Vo.nil.len c, .slice hV.na hV.ns.length hV.nc] 28)).heap.size := by simp
    have HZ2 : Hid (W.heap.size < w2.heap.size) := hz2
    clear hbW S3a Z2 R2 O2 hval1 hz2
    go_wp2_with fail
    obtain ⟨vb, hvb⟩ : ∃ vb, w2.heap.size = vb := ⟨_, rfl⟩
    rw [hvb] at V3 hsz HZ2 ⊢
    generalize w2.alloc (.cells #[.int .i64 1, .int .i64 hV.m, .int .i64 hV.e, .string hV.t, .slice av Vo.nil.len c, .slice hV.na hV.ns.length hV.nc] 28) = W3 at *
    clear hvb
    refine (pick_any 4 R3 (by omega) (by omega) (by omega)).mono ?_
    rintro r w4 ⟨⟨v, rfl, v0, v1⟩, s4⟩
    have hvb2 : ¬ vb = b := by have := HZ2.out; omega
    have R4 := R3.step s4
    have V4 : Row w4 vb (six (Hd.mk 1 hV.m hV.e hV.t hV.na hV.nc hV.ns) av 0 c) := Row.otb ((Otb.refl b W3).stepped s4) hvb2 V3
    have Z4 : Row w4 W.heap.size zero6 := Row.otb ((Otb.refl b W3).stepped s4) hne Z3
    have O4 := O3.stepped s4
    have S4 := S3.otr (((Otb.refl b W3).stepped s4).otr none) hbB (fun g hg => by cases hg)
    have hz4 : vb < w4.heap.size := by rw [s4.other.2.2]; exact hsz
    clear V3 Z3 R3 O3 S3 s4 hsz
    obtain ⟨t0, f0⟩ := V4 0 _ rfl
    obtain ⟨t1, f1⟩ := V4 1 _ rfl
    obtain ⟨t2, f2⟩ := V4 2 _ rfl
    obtain ⟨t3, f3⟩ := V4 3 _ rfl
    obtain ⟨t4, f4⟩ := V4 4 _ rfl
    obtain ⟨t5, f5⟩ := V4 5 _ rfl
    have hv : (v == 0) = true ∨ (v == 0) = false := by cases (v == 0) <;> simp
    rcases hv with hv | hv
    · have hPo := Otr.put6 b (j := vb) (o := 0) w4 (.int .i64 5) (.int .i64 0) (.int .i64 0) (.string ⟨#[]⟩) (.slice none 0 0) (.slice none 0 0)
      have V5 : Row (put6 w4 vb 0 (.int .i64 5) (.int .i64 0) (.int .i64 0) (.string ⟨#[]⟩) (.slice none 0 0) (.slice none 0 0)) vb (six (hdK 5) none Vo.nil.len 0) := Row.put6 V4
      have Z5 := hPo.row hne (fun e => by have := Option.some.inj e; have := HZ2.out; omega) Z4
      have hb4 := R4.base_leU
      have R5 := R4.uptoU (put6_below (B := vb) (nb := vb) (o := 0) (Below.refl _ w4) (Nat.le_refl _) (.int .i64 5) (.int .i64 0) (.int .i64 0) (.string ⟨#[]⟩) (.slice none 0 0) (.slice none 0 0)) (by have := HZ2.out; omega) (by have := HZ2.out; omega)
      have O5 := O4.upto (put6_below (B := W.heap.size) (nb := vb) (o := 0) (Below.refl _ w4) (by have := HZ2.out; omega) (.int .i64 5) (.int .i64 0) (.int .i64 0) (.string ⟨#[]⟩) (.slice none 0 0) (.slice none 0 0))
      have hz5 : vb < (put6 w4 vb 0 (.int .i64 5) (.int .i64 0) (.int .i64 0) (.string ⟨#[]⟩) (.slice none 0 0) (.slice none 0 0)).heap.size := by rw [put6_size]; exact hz4
      clear V4 Z4 R4 O4 S4 hz4 hPo hb4
      go_wp2_with fail
      change Calls Try.prog _ _ (put6 w4 vb 0 (.int .i64 5) (.int .i64 0) (.int .i64 0) (.string ⟨#[]⟩) (.slice none 0 0) (.slice none 0 0)) _
      generalize put6 w4 vb 0 (.int .i64 5) (.int .i64 0) (.int .i64 0) (.string ⟨#[]⟩) (.slice none 0 0) (.slice none 0 0) = w5 at *
      refine (pick_any 3 R5 (by omega) (by omega) (by omega)).mono ?_
      rintro r w6 ⟨⟨n, rfl, n0, n1⟩, s6⟩
      have R6 := R5.step s6
      have V6 : Row w6 vb (six (hdK 5) none Vo.nil.len 0) := Row.otb ((Otb.refl b w5).stepped s6) hvb2 V5
      have Z6 : Row w6 W.heap.size zero6 := Row.otb ((Otb.refl b w5).stepped s6) hne Z5
      have O6 := O5.stepped s6
      have hz6 : vb < w6.heap.size := by rw [s6.other.2.2]; exact hz5
      clear V5 Z5 R5 O5 s6 hz5 t0 t1 t2 t3 t4 t5 f0 f1 f2 f3 f4 f5
      obtain ⟨n, rfl⟩ := Int.eq_ofNat_of_zero_le n0
      go_wp2_with fail
      go_loopw [6] (fun i wr => ∃ (n : Nat) (F : Vo) (av : Option Addr) (c : Nat) (q : Int), i = .int .i64 n ∧ F.len + n ≤ 2 ∧ q + ((n * (pkF d + 4) : Nat) : Int) ≤ p + 33 + 2 * (pkF d + 4) ∧ (Row wr vb (six (hdK 5) av F.len c) ∧ Row wr W.heap.size zero6 ∧ ValS (vb + 1) F.len (F.len * (szF d + 1)) wr (hdK 5) av c F ∧ Rd w0 B b a len cap q wr ∧ Otb b W wr ∧ vb < wr.heap.size)) (fun i _ => (intOf i).toNat)
      case atStart =>
        refine ⟨n, .nil, none, 0, _, rfl, ?_, ?_, V6, Z6, ValS.blank (Nat.zero_le _), R6, O6, hz6⟩
        · show 0 + n ≤ 2; omega
        · have : n * (pkF d + 4) ≤ 2 * (pkF d + 4) := Nat.mul_le_mul_right _ (by omega)
          omega
      case round =>
        clear V6 Z6 R6 O6 hz6 n0 n1
        obtain ⟨n, F, av, c, q, rfl, hFn, hqn, hV', hZ, hS, hR, hO, hz⟩ := hrel
        have HF : Hid (F.len + n ≤ 2 ∧ q + ((n * (pkF d + 4) : Nat) : Int) ≤ p + 33 + 2 * (pkF d + 4)) := ⟨hFn, hqn⟩
        clear hFn hqn
        by_cases hn : 0 < n
        · obtain ⟨m, rfl⟩ : ∃ m, n = m + 1 := ⟨n - 1, by omega⟩
          have hn2 : (0 : Int) < (((m + 1 : Nat)) : Int) := by omega
          have h4 := hV' 4 _ rfl
          have hbz := hR.lt
          have hmul : (m + 1) * (pkF d + 4) = m * (pkF d + 4) + (pkF d + 4) := Nat.succ_mul _ _
          have hq2 : q + pkF d ≤ 70000 := by have := HF.out.2; rw [hmul] at this; omega
          clear hmul
          have hF3 : F.len ≤ 2 := by have := HF.out.1; omega
          have hb2 := hR.base_leU
          have hWv := HZ2.out
          have HWv : Hid (W.heap.size < vb) := hWv
          clear hWv
          go_wp2_with fail
          refine uf9 (n := F.len) (F := F) (B0 := vb + 1) HH.out hR hq2 (by omega) HDD.out hvb2 (by omega) (by have := HWv.out; omega) (by omega) h4.1 h4.2 hS.2.1 (by omega) (fun _ d _ _ _ h => by cases d <;> exact h) ?_
          intro ws v' h1 G ag cg p1 v27 v28 v29 v30 v31 v32 v33 v35 hOt hR1 hp1' hG hown hob
          obtain ⟨g, c', rfl, hg1, hg2⟩ := hown.form (by omega)
          have hob2 : blkOf (some (⟨g, 0, none⟩ : Addr)) = blkOf av ∨ ∃ g', blkOf (some (⟨g, 0, none⟩ : Addr)) = some g' ∧ wr.heap.size ≤ g' ∧ (oneV h1 ag cg G).Blk (fun x => x < g') := hob
          have hWv := HWv.out
          have hS2 := ValS.more (vb := vb) (o := 4) (u := .slice (some ⟨g, 0, none⟩) (F.len + 1) c') hS (by omega) (by omega) (by omega) ⟨rfl, rfl, rfl⟩ (by decide) hOt hG hown hob2
          have hne4 : some vb ≠ blkOf av := fun e => by have := (hS.2.1.lt vb (by rw [ownBlock_blkOf]; exact e.symm)).1; omega
          have hne5 : some W.heap.size ≠ blkOf av := fun e => by have := (hS.2.1.lt W.heap.size (by rw [ownBlock_blkOf]; exact e.symm)).1; omega
          have hV2 := (hOt.row hvb2 hne4 hV').set (i := 4) (by show 4 < 6; omega) (.slice (some ⟨g, 0, none⟩) (F.len + 1) c')
          have hZ2 := (hOt.row hne hne5 hZ).setOther (j := vb) (by omega) 4 (.slice (some ⟨g, 0, none⟩) (F.len + 1) c')
          have hR2 := hR1.set (j := vb) (o := 4) (by omega) (by omega) (.slice (some ⟨g, 0, none⟩) (F.len + 1) c')
          have hO2 : Otb b W (ws.setCell ⟨vb, 4, none⟩ (.slice (some ⟨g, 0, none⟩) (F.len + 1) c')) := Otb.set ⟨Nat.le_trans hO.1 hOt.1, fun x h1 h2 => (hOt.2 x (Nat.lt_of_lt_of_le h1 hO.1) h2 (fun e => by have := (hS.2.1.lt x (by rw [ownBlock_blkOf]; exact e.symm)).1; omega)).trans (hO.2 x h1 h2)⟩ (by omega) _
          have hz2 : vb < (ws.setCell ⟨vb, 4, none⟩ (.slice (some ⟨g, 0, none⟩) (F.len + 1) c')).heap.size := by have := hOt.1; simp [World.setCell]; omega
          generalize ws.setCell ⟨vb, 4, none⟩ (.slice (some ⟨g, 0, none⟩) (F.len + 1) c') = wn at *
          have HN : Hid (Row wn vb (six (hdK 5) (some ⟨g, 0, none⟩) (F.len + 1) c') ∧ Row wn W.heap.size zero6 ∧ ValS (vb + 1) (F.len + 1) (F.len * (szF d + 1) + szF d + 1) wn (hdK 5) (some ⟨g, 0, none⟩) c' (F.app (oneV h1 ag cg G)) ∧ Rd w0 B b a len cap p1 wn ∧ Otb b W wn ∧ vb < wn.heap.size) := ⟨hV2, hZ2, hS2, hR2, hO2, hz2⟩
          clear hV' hZ hS hR hO hz h4 hOt hR1 hG hown hob hob2 hS2 hV2 hZ2 hR2 hO2 hz2 hne4 hne5 hWv
          have hm3 : m ≤ 3 := by have hF1 := HF.out.1; omega
          go_wp2_with fail
          refine ⟨?_, ?_⟩
          · obtain ⟨n1, n2, n3, n4, n5, n6⟩ := HN.out
            have el : (F.app (oneV h1 ag cg G)).len = F.len + 1 := Vo.app_len _ _
            obtain ⟨e1, e2⟩ := HF.out
            have hmul : (m + 1) * (pkF d + 4) = m * (pkF d + 4) + (pkF d + 4) := Nat.succ_mul _ _
            rw [hmul] at e2
            refine ⟨m, F.app (oneV h1 ag cg G), some ⟨g, 0, none⟩, c', p1, ?_, by omega, by omega, by rw [el]; exact n1, n2, ?_, n4, n5, n6⟩
            · rfl
            · rw [el, Nat.succ_mul]; exact n3
          · simp [intOf]
        · have hn0 : n = 0 := by omega
          have hn2 : ¬ (0 : Int) < (n : Int) := by omega
          obtain ⟨e1, e2⟩ := HF.out
          have hF3 : F.len ≤ 2 := by omega
          have hM : F.len * (szF d + 1) ≤ 2 * (szF d + 1) := Nat.mul_le_mul_right _ hF3
          have hWv := HZ2.out
          have Z9 := hZ
          have R9 := hR
          have O9 := hO
          have S9 := hS.mono (show W.heap.size + 1 ≤ vb + 1 by omega) (show F.len ≤ 3 by omega) hM
          have hqe : q ≤ p + pkF (d + 1) := by have := HP.out; subst hn0; omega
          have s0 := (hV' 0 _ rfl).1
          have s1 := (hV' 1 _ rfl).1
          have s2 := (hV' 2 _ rfl).1
          have s3 := (hV' 3 _ rfl).1
          have s4 := (hV' 4 _ rfl).1
          have s5 := (hV' 5 _ rfl).1
          clear hV' hZ hR hO hS e1 e2 hM HF HH hn0 hn hWv
          obtain ⟨r0, g0⟩ := Z9 0 _ rfl
          obtain ⟨r1, g1⟩ := Z9 1 _ rfl
          obtain ⟨r2, g2⟩ := Z9 2 _ rfl
          obtain ⟨r3, g3⟩ := Z9 3 _ rfl
          obtain ⟨r4, g4⟩ := Z9 4 _ rfl
          obtain ⟨r5, g5⟩ := Z9 5 _ rfl
          have HP6 := Row.put6 (v0 := .int .i64 (hdK 5).k) (v1 := .int .i64 (hdK 5).m) (v2 := .int .i64 (hdK 5).e) (v3 := .string (hdK 5).t) (v4 := .slice av (F).len c) (v5 := .slice (hdK 5).na (hdK 5).ns.length (hdK 5).nc) Z9
          have HO6 := Otr.put6 b (j := W.heap.size) (o := 0) wr (.int .i64 (hdK 5).k) (.int .i64 (hdK 5).m) (.int .i64 (hdK 5).e) (.string (hdK 5).t) (.slice av (F).len c) (.slice (hdK 5).na (hdK 5).ns.length (hdK 5).nc)
          have hb9 := R9.base_leU
          have S10 := S9.otr HO6 hbB (fun g hg => by cases hg; omega)
          have R10 := R9.uptoU (put6_below (B := W.heap.size) (nb := W.heap.size) (o := 0) (Below.refl _ wr) (Nat.le_refl _) (.int .i64 (hdK 5).k) (.int .i64 (hdK 5).m) (.int .i64 (hdK 5).e) (.string (hdK 5).t) (.slice av (F).len c) (.slice (hdK 5).na (hdK 5).ns.length (hdK 5).nc)) hlt (by omega)
          have O10 := O9.upto (put6_below (B := W.heap.size) (nb := W.heap.size) (o := 0) (Below.refl _ wr) (Nat.le_refl _) (.int .i64 (hdK 5).k) (.int .i64 (hdK 5).m) (.int .i64 (hdK 5).e) (.string (hdK 5).t) (.slice av (F).len c) (.slice (hdK 5).na (hdK 5).ns.length (hdK 5).nc))
          have HS10 : Hid (ValS W.heap.size 3 (szF (d + 1)) (put6 wr W.heap.size 0 (.int .i64 (hdK 5).k) (.int .i64 (hdK 5).m) (.int .i64 (hdK 5).e) (.string (hdK 5).t) (.slice av (F).len c) (.slice (hdK 5).na (hdK 5).ns.length (hdK 5).nc)) (hdK 5) av c F ∧ Rd w0 B b a len cap _ (put6 wr W.heap.size 0 (.int .i64 (hdK 5).k) (.int .i64 (hdK 5).m) (.int .i64 (hdK 5).e) (.string (hdK 5).t) (.slice av (F).len c) (.slice (hdK 5).na (hdK 5).ns.length (hdK 5).nc)) ∧ Otb b W (put6 wr W.heap.size 0 (.int .i64 (hdK 5).k) (.int .i64 (hdK 5).m) (.int .i64 (hdK 5).e) (.string (hdK 5).t) (.slice av (F).len c) (.slice (hdK 5).na (hdK 5).ns.length (hdK 5).nc))) := ⟨S10.mono (by omega) (Nat.le_refl _) (Nat.le_refl _), R10, O10⟩
          clear Z9 S9 R9 O9 HO6 S10 R10 O10
          go_wp2_with fail
          show bodyPost Try.prog Try.f48 _ Exit.ret _ (put6 wr W.heap.size 0 (.int .i64 (hdK 5).k) (.int .i64 (hdK 5).m) (.int .i64 (hdK 5).e) (.string (hdK 5).t) (.slice av (F).len c) (.slice (hdK 5).na (hdK 5).ns.length (hdK 5).nc))
          generalize put6 wr W.heap.size 0 (.int .i64 (hdK 5).k) (.int .i64 (hdK 5).m) (.int .i64 (hdK 5).e) (.string (hdK 5).t) (.slice av (F).len c) (.slice (hdK 5).na (hdK 5).ns.length (hdK 5).nc) = W6 at *
          have y0 := (HP6 0 _ rfl).1
          have y1 := (HP6 1 _ rfl).1
          have y2 := (HP6 2 _ rfl).1
          have y3 := (HP6 3 _ rfl).1
          have y4 := (HP6 4 _ rfl).1
          have y5 := (HP6 5 _ rfl).1
          obtain ⟨z1, z2, z3⟩ := HS10.out
          refine bodyPost_ret (v := valV (hdK 5) av (F).len c) (by simp [results, Try.results48, go_sem, y0, y1, y2, y3, y4, y5, Vo.len]) rfl (by first | exact ⟨hdK 5, F, av, c, _, rfl, z1, hqe, z2, z3⟩ | exact ⟨hdK 5, F, av, c, rfl, z1, _, hqe, z2, z3⟩)
    · have Z9 := Z4
      have R9 := R4
      have O9 := O4
      have S9 := S4
      have hqe : p2 + 1 ≤ p + pkF (d + 1) := by have := HP.out; omega
      clear V4 Z4 R4 O4 S4 v0 v1
      obtain ⟨r0, g0⟩ := Z9 0 _ rfl
      obtain ⟨r1, g1⟩ := Z9 1 _ rfl
      obtain ⟨r2, g2⟩ := Z9 2 _ rfl
      obtain ⟨r3, g3⟩ := Z9 3 _ rfl
      obtain ⟨r4, g4⟩ := Z9 4 _ rfl
      obtain ⟨r5, g5⟩ := Z9 5 _ rfl
      have HP6 := Row.put6 (v0 := .int .i64 ((Hd.mk 1 hV.m hV.e hV.t hV.na hV.nc hV.ns)).k) (v1 := .int .i64 ((Hd.mk 1 hV.m hV.e hV.t hV.na hV.nc hV.ns)).m) (v2 := .int .i64 ((Hd.mk 1 hV.m hV.e hV.t hV.na hV.nc hV.ns)).e) (v3 := .string ((Hd.mk 1 hV.m hV.e hV.t hV.na hV.nc hV.ns)).t) (v4 := .slice av (Vo.nil).len c) (v5 := .slice ((Hd.mk 1 hV.m hV.e hV.t hV.na hV.nc hV.ns)).na ((Hd.mk 1 hV.m hV.e hV.t hV.na hV.nc hV.ns)).ns.length ((Hd.mk 1 hV.m hV.e hV.t hV.na hV.nc hV.ns)).nc) Z9
      have HO6 := Otr.put6 b (j := W.heap.size) (o := 0) w4 (.int .i64 ((Hd.mk 1 hV.m hV.e hV.t hV.na hV.nc hV.ns)).k) (.int .i64 ((Hd.mk 1 hV.m hV.e hV.t hV.na hV.nc hV.ns)).m) (.int .i64 ((Hd.mk 1 hV.m hV.e hV.t hV.na hV.nc hV.ns)).e) (.string ((Hd.mk 1 hV.m hV.e hV.t hV.na hV.nc hV.ns)).t) (.slice av (Vo.nil).len c) (.slice ((Hd.mk 1 hV.m hV.e hV.t hV.na hV.nc hV.ns)).na ((Hd.mk 1 hV.m hV.e hV.t hV.na hV.nc hV.ns)).ns.length ((Hd.mk 1 hV.m hV.e hV.t hV.na hV.nc hV.ns)).nc)
      have hb9 := R9.base_leU
      have S10 := S9.otr HO6 hbB (fun g hg => by cases hg; omega)
      have R10 := R9.uptoU (put6_below (B := W.heap.size) (nb := W.heap.size) (o := 0) (Below.refl _ w4) (Nat.le_refl _) (.int .i64 ((Hd.mk 1 hV.m hV.e hV.t hV.na hV.nc hV.ns)).k) (.int .i64 ((Hd.mk 1 hV.m hV.e hV.t hV.na hV.nc hV.ns)).m) (.int .i64 ((Hd.mk 1 hV.m hV.e hV.t hV.na hV.nc hV.ns)).e) (.string ((Hd.mk 1 hV.m hV.e hV.t hV.na hV.nc hV.ns)).t) (.slice av (Vo.nil).len c) (.slice ((Hd.mk 1 hV.m hV.e hV.t hV.na hV.nc hV.ns)).na ((Hd.mk 1 hV.m hV.e hV.t hV.na hV.nc hV.ns)).ns.length ((Hd.mk 1 hV.m hV.e hV.t hV.na hV.nc hV.ns)).nc)) hlt (by omega)
      have O10 := O9.upto (put6_below (B := W.heap.size) (nb := W.heap.size) (o := 0) (Below.refl _ w4) (Nat.le_refl _) (.int .i64 ((Hd.mk 1 hV.m hV.e hV.t hV.na hV.nc hV.ns)).k) (.int .i64 ((Hd.mk 1 hV.m hV.e hV.t hV.na hV.nc hV.ns)).m) (.int .i64 ((Hd.mk 1 hV.m hV.e hV.t hV.na hV.nc hV.ns)).e) (.string ((Hd.mk 1 hV.m hV.e hV.t hV.na hV.nc hV.ns)).t) (.slice av (Vo.nil).len c) (.slice ((Hd.mk 1 hV.m hV.e hV.t hV.na hV.nc hV.ns)).na ((Hd.mk 1 hV.m hV.e hV.t hV.na hV.nc hV.ns)).ns.length ((Hd.mk 1 hV.m hV.e hV.t hV.na hV.nc hV.ns)).nc))
      have HS10 : Hid (ValS W.heap.size 3 (szF (d + 1)) (put6 w4 W.heap.size 0 (.int .i64 ((Hd.mk 1 hV.m hV.e hV.t hV.na hV.nc hV.ns)).k) (.int .i64 ((Hd.mk 1 hV.m hV.e hV.t hV.na hV.nc hV.ns)).m) (.int .i64 ((Hd.mk 1 hV.m hV.e hV.t hV.na hV.nc hV.ns)).e) (.string ((Hd.mk 1 hV.m hV.e hV.t hV.na hV.nc hV.ns)).t) (.slice av (Vo.nil).len c) (.slice ((Hd.mk 1 hV.m hV.e hV.t hV.na hV.nc hV.ns)).na ((Hd.mk 1 hV.m hV.e hV.t hV.na hV.nc hV.ns)).ns.length ((Hd.mk 1 hV.m hV.e hV.t hV.na hV.nc hV.ns)).nc)) ((Hd.mk 1 hV.m hV.e hV.t hV.na hV.nc hV.ns)) av c Vo.nil ∧ Rd w0 B b a len cap _ (put6 w4 W.heap.size 0 (.int .i64 ((Hd.mk 1 hV.m hV.e hV.t hV.na hV.nc hV.ns)).k) (.int .i64 ((Hd.mk 1 hV.m hV.e hV.t hV.na hV.nc hV.ns)).m) (.int .i64 ((Hd.mk 1 hV.m hV.e hV.t hV.na hV.nc hV.ns)).e) (.string ((Hd.mk 1 hV.m hV.e hV.t hV.na hV.nc hV.ns)).t) (.slice av (Vo.nil).len c) (.slice ((Hd.mk 1 hV.m hV.e hV.t hV.na hV.nc hV.ns)).na ((Hd.mk 1 hV.m hV.e hV.t hV.na hV.nc hV.ns)).ns.length ((Hd.mk 1 hV.m hV.e hV.t hV.na hV.nc hV.ns)).nc)) ∧ Otb b W (put6 w4 W.heap.size 0 (.int .i64 ((Hd.mk 1 hV.m hV.e hV.t hV.na hV.nc hV.ns)).k) (.int .i64 ((Hd.mk 1 hV.m hV.e hV.t hV.na hV.nc hV.ns)).m) (.int .i64 ((Hd.mk 1 hV.m hV.e hV.t hV.na hV.nc hV.ns)).e) (.string ((Hd.mk 1 hV.m hV.e hV.t hV.na hV.nc hV.ns)).t) (.slice av (Vo.nil).len c) (.slice ((Hd.mk 1 hV.m hV.e hV.t hV.na hV.nc hV.ns)).na ((Hd.mk 1 hV.m hV.e hV.t hV.na hV.nc hV.ns)).ns.length ((Hd.mk 1 hV.m hV.e hV.t hV.na hV.nc hV.ns)).nc))) := ⟨S10.mono (by omega) (Nat.le_refl _) (Nat.zero_le _), R10, O10⟩
      clear Z9 S9 R9 O9 HO6 S10 R10 O10
      go_wp2_with fail
      show bodyPost Try.prog Try.f48 _ Exit.ret _ (put6 w4 W.heap.size 0 (.int .i64 ((Hd.mk 1 hV.m hV.e hV.t hV.na hV.nc hV.ns)).k) (.int .i64 ((Hd.mk 1 hV.m hV.e hV.t hV.na hV.nc hV.ns)).m) (.int .i64 ((Hd.mk 1 hV.m hV.e hV.t hV.na hV.nc hV.ns)).e) (.string ((Hd.mk 1 hV.m hV.e hV.t hV.na hV.nc hV.ns)).t) (.slice av (Vo.nil).len c) (.slice ((Hd.mk 1 hV.m hV.e hV.t hV.na hV.nc hV.ns)).na ((Hd.mk 1 hV.m hV.e hV.t hV.na hV.nc hV.ns)).ns.length ((Hd.mk 1 hV.m hV.e hV.t hV.na hV.nc hV.ns)).nc))
      generalize put6 w4 W.heap.size 0 (.int .i64 ((Hd.mk 1 hV.m hV.e hV.t hV.na hV.nc hV.ns)).k) (.int .i64 ((Hd.mk 1 hV.m hV.e hV.t hV.na hV.nc hV.ns)).m) (.int .i64 ((Hd.mk 1 hV.m hV.e hV.t hV.na hV.nc hV.ns)).e) (.string ((Hd.mk 1 hV.m hV.e hV.t hV.na hV.nc hV.ns)).t) (.slice av (Vo.nil).len c) (.slice ((Hd.mk 1 hV.m hV.e hV.t hV.na hV.nc hV.ns)).na ((Hd.mk 1 hV.m hV.e hV.t hV.na hV.nc hV.ns)).ns.length ((Hd.mk 1 hV.m hV.e hV.t hV.na hV.nc hV.ns)).nc) = W6 at *
      have y0 := (HP6 0 _ rfl).1
      have y1 := (HP6 1 _ rfl).1
      have y2 := (HP6 2 _ rfl).1
      have y3 := (HP6 3 _ rfl).1
      have y4 := (HP6 4 _ rfl).1
      have y5 := (HP6 5 _ rfl).1
      obtain ⟨z1, z2, z3⟩ := HS10.out
      refine bodyPost_ret (v := valV ((Hd.mk 1 hV.m hV.e hV.t hV.na hV.nc hV.ns)) av (Vo.nil).len c) (by simp [results, Try.results48, go_sem, y0, y1, y2, y3, y4, y5, Vo.len]) rfl (by first | exact ⟨(Hd.mk 1 hV.m hV.e hV.t hV.na hV.nc hV.ns), Vo.nil, av, c, _, rfl, z1, hqe, z2, z3⟩ | exact ⟨(Hd.mk 1 hV.m hV.e hV.t hV.na hV.nc hV.ns), Vo.nil, av, c, rfl, z1, _, hqe, z2, z3⟩)
  · skip
    have hbW : Below w2.heap.size w2 (w2.alloc (.cells #[.int .i64 hV.k, .int .i64 hV.m, .int .i64 hV.e, .string hV.t, .slice av Vo.nil.len c, .slice hV.na hV.ns.length hV.nc] 28)) := (Below.refl _ _).alloc (Nat.le_refl _) _
    have V3 : Row (w2.alloc (.cells #[.int .i64 hV.k, .int .i64 hV.m, .int .i64 hV.e, .string hV.t, .slice av Vo.nil.len c, .slice hV.na hV.ns.length hV.nc] 28)) w2.heap.size (six (Hd.mk hV.k hV.m hV.e hV.t hV.na hV.nc hV.ns) av 0 c) := Row.new w2 _ _
    have Z3 := Z2.below hbW hz2
    have R3 := R2.below hbW
    have O3 := O2.alloc (.cells #[.int .i64 hV.k, .int .i64 hV.m, .int .i64 hV.e, .string hV.t, .slice av Vo.nil.len c, .slice hV.na hV.ns.length hV.nc] 28)
    have S3a := hval1.below hbW
    have S3 : ValS (W.heap.size + 1) 3 0 (w2.alloc (.cells #[.int .i64 hV.k, .int .i64 hV.m, .int .i64 hV.e, .string hV.t, .slice av Vo.nil.len c, .slice hV.na hV.ns.length hV.nc] 28)) (Hd.mk hV.k hV.m hV.e hV.t hV.na hV.nc hV.ns) av c .nil := by first | exact S3a.kind1 | exact S3a
    have hsz : w2.heap.size < (w2.alloc (.cells #[.int .i64 hV.k, .int .i64 hV.m, .int .i64 hV.e, .string hV.t, .slice av Vo.nil.len c, .slice hV.na hV.ns.length hV.nc] 28)).heap.size := by simp
    have HZ2 : Hid (W.heap.size < w2.heap.size) := hz2
    clear hbW S3a Z2 R2 O2 hval1 hz2
    go_wp2_with fail
    obtain ⟨vb, hvb⟩ : ∃ vb, w2.heap.size = vb := ⟨_, rfl⟩
    rw [hvb] at V3 hsz HZ2 ⊢
    generalize w2.alloc (.cells #[.int .i64 hV.k, .int .i64 hV.m, .int .i64 hV.e, .string hV.t, .slice av Vo.nil.len c, .slice hV.na hV.ns.length hV.nc] 28) = W3 at *
    clear hvb
    refine (pick_any 4 R3 (by omega) (by omega) (by omega)).mono ?_
    rintro r w4 ⟨⟨v, rfl, v0, v1⟩, s4⟩
    have hvb2 : ¬ vb = b := by have := HZ2.out; omega
    have R4 := R3.step s4
    have V4 : Row w4 vb (six (Hd.mk hV.k hV.m hV.e hV.t hV.na hV.nc hV.ns) av 0 c) := Row.otb ((Otb.refl b W3).stepped s4) hvb2 V3
    have Z4 : Row w4 W.heap.size zero6 := Row.otb ((Otb.refl b W3).stepped s4) hne Z3
    have O4 := O3.stepped s4
    have S4 := S3.otr (((Otb.refl b W3).stepped s4).otr none) hbB (fun g hg => by cases hg)
    have hz4 : vb < w4.heap.size := by rw [s4.other.2.2]; exact hsz
    clear V3 Z3 R3 O3 S3 s4 hsz
    obtain ⟨t0, f0⟩ := V4 0 _ rfl
    obtain ⟨t1, f1⟩ := V4 1 _ rfl
    obtain ⟨t2, f2⟩ := V4 2 _ rfl
    obtain ⟨t3, f3⟩ := V4 3 _ rfl
    obtain ⟨t4, f4⟩ := V4 4 _ rfl
    obtain ⟨t5, f5⟩ := V4 5 _ rfl
    have hv : (v == 0) = true ∨ (v == 0) = false := by cases (v == 0) <;> simp
    rcases hv with hv | hv
    · have hPo := Otr.put6 b (j := vb) (o := 0) w4 (.int .i64 5) (.int .i64 0) (.int .i64 0) (.string ⟨#[]⟩) (.slice none 0 0) (.slice none 0 0)
      have V5 : Row (put6 w4 vb 0 (.int .i64 5) (.int .i64 0) (.int .i64 0) (.string ⟨#[]⟩) (.slice none 0 0) (.slice none 0 0)) vb (six (hdK 5) none Vo.nil.len 0) := Row.put6 V4
      have Z5 := hPo.row hne (fun e => by have := Option.some.inj e; have := HZ2.out; omega) Z4
      have hb4 := R4.base_leU
      have R5 := R4.uptoU (put6_below (B := vb) (nb := vb) (o := 0) (Below.refl _ w4) (Nat.le_refl _) (.int .i64 5) (.int .i64 0) (.int .i64 0) (.string ⟨#[]⟩) (.slice none 0 0) (.slice none 0 0)) (by have := HZ2.out; omega) (by have := HZ2.out; omega)
      have O5 := O4.upto (put6_below (B := W.heap.size) (nb := vb) (o := 0) (Below.refl _ w4) (by have := HZ2.out; omega) (.int .i64 5) (.int .i64 0) (.int .i64 0) (.string ⟨#[]⟩) (.slice none 0 0) (.slice none 0 0))
      have hz5 : vb < (put6 w4 vb 0 (.int .i64 5) (.int .i64 0) (.int .i64 0) (.string ⟨#[]⟩) (.slice none 0 0) (.slice none 0 0)).heap.size := by rw [put6_size]; exact hz4
      clear V4 Z4 R4 O4 S4 hz4 hPo hb4
      go_wp2_with fail
      change Calls Try.prog _ _ (put6 w4 vb 0 (.int .i64 5) (.int .i64 0) (.int .i64 0) (.string ⟨#[]⟩) (.slice none 0 0) (.slice none 0 0)) _
      generalize put6 w4 vb 0 (.int .i64 5) (.int .i64 0) (.int .i64 0) (.string ⟨#[]⟩) (.slice none 0 0) (.slice none 0 0) = w5 at *
      refine (pick_any 3 R5 (by omega) (by omega) (by omega)).mono ?_
      rintro r w6 ⟨⟨n, rfl, n0, n1⟩, s6⟩
      have R6 := R5.step s6
      have V6 : Row w6 vb (six (hdK 5) none Vo.nil.len 0) := Row.otb ((Otb.refl b w5).stepped s6) hvb2 V5
      have Z6 : Row w6 W.heap.size zero6 := Row.otb ((Otb.refl b w5).stepped s6) hne Z5
      have O6 := O5.stepped s6
      have hz6 : vb < w6.heap.size := by rw [s6.other.2.2]; exact hz5
      clear V5 Z5 R5 O5 s6 hz5 t0 t1 t2 t3 t4 t5 f0 f1 f2 f3 f4 f5
      obtain ⟨n, rfl⟩ := Int.eq_ofNat_of_zero_le n0
      go_wp2_with fail
      go_loopw [6] (fun i wr => ∃ (n : Nat) (F : Vo) (av : Option Addr) (c : Nat) (q : Int), i = .int .i64 n ∧ F.len + n ≤ 2 ∧ q + ((n * (pkF d + 4) : Nat) : Int) ≤ p + 33 + 2 * (pkF d + 4) ∧ (Row wr vb (six (hdK 5) av F.len c) ∧ Row wr W.heap.size zero6 ∧ ValS (vb + 1) F.len (F.len * (szF d + 1)) wr (hdK 5) av c F ∧ Rd w0 B b a len cap q wr ∧ Otb b W wr ∧ vb < wr.heap.size)) (fun i _ => (intOf i).toNat)
      case atStart =>
        refine ⟨n, .nil, none, 0, _, rfl, ?_, ?_, V6, Z6, ValS.blank (Nat.zero_le _), R6, O6, hz6⟩
        · show 0 + n ≤ 2; omega
        · have : n * (pkF d + 4) ≤ 2 * (pkF d + 4) := Nat.mul_le_mul_right _ (by omega)
          omega
      case round =>
        clear V6 Z6 R6 O6 hz6 n0 n1
        obtain ⟨n, F, av, c, q, rfl, hFn, hqn, hV', hZ, hS, hR, hO, hz⟩ := hrel
        have HF : Hid (F.len + n ≤ 2 ∧ q + ((n * (pkF d + 4) : Nat) : Int) ≤ p + 33 + 2 * (pkF d + 4)) := ⟨hFn, hqn⟩
        clear hFn hqn
        by_cases hn : 0 < n
        · obtain ⟨m, rfl⟩ : ∃ m, n = m + 1 := ⟨n - 1, by omega⟩
          have hn2 : (0 : Int) < (((m + 1 : Nat)) : Int) := by omega
          have h4 := hV' 4 _ rfl
          have hbz := hR.lt
          have hmul : (m + 1) * (pkF d + 4) = m * (pkF d + 4) + (pkF d + 4) := Nat.succ_mul _ _
          have hq2 : q + pkF d ≤ 70000 := by have := HF.out.2; rw [hmul] at this; omega
          clear hmul
          have hF3 : F.len ≤ 2 := by have := HF.out.1; omega
          have hb2 := hR.base_leU
          have hWv := HZ2.out
          have HWv : Hid (W.heap.size < vb) := hWv
          clear hWv
          go_wp2_with fail
          refine uf9 (n := F.len) (F := F) (B0 := vb + 1) HH.out hR hq2 (by omega) HDD.out hvb2 (by omega) (by have := HWv.out; omega) (by omega) h4.1 h4.2 hS.2.1 (by omega) (fun _ d _ _ _ h => by cases d <;> exact h) ?_
          intro ws v' h1 G ag cg p1 v27 v28 v29 v30 v31 v32 v33 v35 hOt hR1 hp1' hG hown hob
          obtain ⟨g, c', rfl, hg1, hg2⟩ := hown.form (by omega)
          have hob2 : blkOf (some (⟨g, 0, none⟩ : Addr)) = blkOf av ∨ ∃ g', blkOf (some (⟨g, 0, none⟩ : Addr)) = some g' ∧ wr.heap.size ≤ g' ∧ (oneV h1 ag cg G).Blk (fun x => x < g') := hob
          have hWv := HWv.out
          have hS2 := ValS.more (vb := vb) (o := 4) (u := .slice (some ⟨g, 0, none⟩) (F.len + 1) c') hS (by omega) (by omega) (by omega) ⟨rfl, rfl, rfl⟩ (by decide) hOt hG hown hob2
          have hne4 : some vb ≠ blkOf av := fun e => by have := (hS.2.1.lt vb (by rw [ownBlock_blkOf]; exact e.symm)).1; omega
          have hne5 : some W.heap.size ≠ blkOf av := fun e => by have := (hS.2.1.lt W.heap.size (by rw [ownBlock_blkOf]; exact e.symm)).1; omega
          have hV2 := (hOt.row hvb2 hne4 hV').set (i := 4) (by show 4 < 6; omega) (.slice (some ⟨g, 0, none⟩) (F.len + 1) c')
          have hZ2 := (hOt.row hne hne5 hZ).setOther (j := vb) (by omega) 4 (.slice (some ⟨g, 0, none⟩) (F.len + 1) c')
          have hR2 := hR1.set (j := vb) (o := 4) (by omega) (by omega) (.slice (some ⟨g, 0, none⟩) (F.len + 1) c')
          have hO2 : Otb b W (ws.setCell ⟨vb, 4, none⟩ (.slice (some ⟨g, 0, none⟩) (F.len + 1) c')) := Otb.set ⟨Nat.le_trans hO.1 hOt.1, fun x h1 h2 => (hOt.2 x (Nat.lt_of_lt_of_le h1 hO.1) h2 (fun e => by have := (hS.2.1.lt x (by rw [ownBlock_blkOf]; exact e.symm)).1; omega)).trans (hO.2 x h1 h2)⟩ (by omega) _
          have hz2 : vb < (ws.setCell ⟨vb, 4, none⟩ (.slice (some ⟨g, 0, none⟩) (F.len + 1) c')).heap.size := by have := hOt.1; simp [World.setCell]; omega
          generalize ws.setCell ⟨vb, 4, none⟩ (.slice (some ⟨g, 0, none⟩) (F.len + 1) c') = wn at *
          have HN : Hid (Row wn vb (six (hdK 5) (some ⟨g, 0, none⟩) (F.len + 1) c') ∧ Row wn W.heap.size zero6 ∧ ValS (vb + 1) (F.len + 1) (F.len * (szF d + 1) + szF d + 1) wn (hdK 5) (some ⟨g, 0, none⟩) c' (F.app (oneV h1 ag cg G)) ∧ Rd w0 B b a len cap p1 wn ∧ Otb b W wn ∧ vb < wn.heap.size) := ⟨hV2, hZ2, hS2, hR2, hO2, hz2⟩
          clear hV' hZ hS hR hO hz h4 hOt hR1 hG hown hob hob2 hS2 hV2 hZ2 hR2 hO2 hz2 hne4 hne5 hWv
          have hm3 : m ≤ 3 := by have hF1 := HF.out.1; omega
          go_wp2_with fail
          refine ⟨?_, ?_⟩
          · obtain ⟨n1, n2, n3, n4, n5, n6⟩ := HN.out
            have el : (F.app (oneV h1 ag cg G)).len = F.len + 1 := Vo.app_len _ _
            obtain ⟨e1, e2⟩ := HF.out
            have hmul : (m + 1) * (pkF d + 4) = m * (pkF d + 4) + (pkF d + 4) := Nat.succ_mul _ _
            rw [hmul] at e2
            refine ⟨m, F.app (oneV h1 ag cg G), some ⟨g, 0, none⟩, c', p1, ?_, by omega, by omega, by rw [el]; exact n1, n2, ?_, n4, n5, n6⟩
            · rfl
            · rw [el, Nat.succ_mul]; exact n3
          · simp [intOf]
        · have hn0 : n = 0 := by omega
          have hn2 : ¬ (0 : Int) < (n : Int) := by omega
          obtain ⟨e1, e2⟩ := HF.out
          have hF3 : F.len ≤ 2 := by omega
          have hM : F.len * (szF d + 1) ≤ 2 * (szF d + 1) := Nat.mul_le_mul_right _ hF3
          have hWv := HZ2.out
          have Z9 := hZ
          have R9 := hR
          have O9 := hO
          have S9 := hS.mono (show W.heap.size + 1 ≤ vb + 1 by omega) (show F.len ≤ 3 by omega) hM
          have hqe : q ≤ p + pkF (d + 1) := by have := HP.out; subst hn0; omega
          have s0 := (hV' 0 _ rfl).1
          have s1 := (hV' 1 _ rfl).1
          have s2 := (hV' 2 _ rfl).1
          have s3 := (hV' 3 _ rfl).1
          have s4 := (hV' 4 _ rfl).1
          have s5 := (hV' 5 _ rfl).1
          clear hV' hZ hR hO hS e1 e2 hM HF HH hn0 hn hWv
          obtain ⟨r0, g0⟩ := Z9 0 _ rfl
          obtain ⟨r1, g1⟩ := Z9 1 _ rfl
          obtain ⟨r2, g2⟩ := Z9 2 _ rfl
          obtain ⟨r3, g3⟩ := Z9 3 _ rfl
          obtain ⟨r4, g4⟩ := Z9 4 _ rfl
          obtain ⟨r5, g5⟩ := Z9 5 _ rfl
          have HP6 := Row.put6 (v0 := .int .i64 (hdK 5).k) (v1 := .int .i64 (hdK 5).m) (v2 := .int .i64 (hdK 5).e) (v3 := .string (hdK 5).t) (v4 := .slice av (F).len c) (v5 := .slice (hdK 5).na (hdK 5).ns.length (hdK 5).nc) Z9
          have HO6 := Otr.put6 b (j := W.heap.size) (o := 0) wr (.int .i64 (hdK 5).k) (.int .i64 (hdK 5).m) (.int .i64 (hdK 5).e) (.string (hdK 5).t) (.slice av (F).len c) (.slice (hdK 5).na (hdK 5).ns.length (hdK 5).nc)
          have hb9 := R9.base_leU
          have S10 := S9.otr HO6 hbB (fun g hg => by cases hg; omega)
          have R10 := R9.uptoU (put6_below (B := W.heap.size) (nb := W.heap.size) (o := 0) (Below.refl _ wr) (Nat.le_refl _) (.int .i64 (hdK 5).k) (.int .i64 (hdK 5).m) (.int .i64 (hdK 5).e) (.string (hdK 5).t) (.slice av (F).len c) (.slice (hdK 5).na (hdK 5).ns.length (hdK 5).nc)) hlt (by omega)
          have O10 := O9.upto (put6_below (B := W.heap.size) (nb := W.heap.size) (o := 0) (Below.refl _ wr) (Nat.le_refl _) (.int .i64 (hdK 5).k) (.int .i64 (hdK 5).m) (.int .i64 (hdK 5).e) (.string (hdK 5).t) (.slice av (F).len c) (.slice (hdK 5).na (hdK 5).ns.length (hdK 5).nc))
          have HS10 : Hid (ValS W.heap.size 3 (szF (d + 1)) (put6 wr W.heap.size 0 (.int .i64 (hdK 5).k) (.int .i64 (hdK 5).m) (.int .i64 (hdK 5).e) (.string (hdK 5).t) (.slice av (F).len c) (.slice (hdK 5).na (hdK 5).ns.length (hdK 5).nc)) (hdK 5) av c F ∧ Rd w0 B b a len cap _ (put6 wr W.heap.size 0 (.int .i64 (hdK 5).k) (.int .i64 (hdK 5).m) (.int .i64 (hdK 5).e) (.string (hdK 5).t) (.slice av (F).len c) (.slice (hdK 5).na (hdK 5).ns.length (hdK 5).nc)) ∧ Otb b W (put6 wr W.heap.size 0 (.int .i64 (hdK 5).k) (.int .i64 (hdK 5).m) (.int .i64 (hdK 5).e) (.string (hdK 5).t) (.slice av (F).len c) (.slice (hdK 5).na (hdK 5).ns.length (hdK 5).nc))) := ⟨S10.mono (by omega) (Nat.le_refl _) (Nat.le_refl _), R10, O10⟩
          clear Z9 S9 R9 O9 HO6 S10 R10 O10
          go_wp2_with fail
          show bodyPost Try.prog Try.f48 _ Exit.ret _ (put6 wr W.heap.size 0 (.int .i64 (hdK 5).k) (.int .i64 (hdK 5).m) (.int .i64 (hdK 5).e) (.string (hdK 5).t) (.slice av (F).len c) (.slice (hdK 5).na (hdK 5).ns.length (hdK 5).nc))
          generalize put6 wr W.heap.size 0 (.int .i64 (hdK 5).k) (.int .i64 (hdK 5).m) (.int .i64 (hdK 5).e) (.string (hdK 5).t) (.slice av (F).len c) (.slice (hdK 5).na (hdK 5).ns.length (hdK 5).nc) = W6 at *
          have y0 := (HP6 0 _ rfl).1
          have y1 := (HP6 1 _ rfl).1
          have y2 := (HP6 2 _ rfl).1
          have y3 := (HP6 3 _ rfl).1
          have y4 := (HP6 4 _ rfl).1
          have y5 := (HP6 5 _ rfl).1
          obtain ⟨z1, z2, z3⟩ := HS10.out
          refine bodyPost_ret (v := valV (hdK 5) av (F).len c) (by simp [results, Try.results48, go_sem, y0, y1, y2, y3, y4, y5, Vo.len]) rfl (by first | exact ⟨hdK 5, F, av, c, _, rfl, z1, hqe, z2, z3⟩ | exact ⟨hdK 5, F, av, c, rfl, z1, _, hqe, z2, z3⟩)
    · have Z9 := Z4
      have R9 := R4
      have O9 := O4
      have S9 := S4
      have hqe : p2 + 1 ≤ p + pkF (d + 1) := by have := HP.out; omega
      clear V4 Z4 R4 O4 S4 v0 v1
      obtain ⟨r0, g0⟩ := Z9 0 _ rfl
      obtain ⟨r1, g1⟩ := Z9 1 _ rfl
      obtain ⟨r2, g2⟩ := Z9 2 _ rfl
      obtain ⟨r3, g3⟩ := Z9 3 _ rfl
      obtain ⟨r4, g4⟩ := Z9 4 _ rfl
      obtain ⟨r5, g5⟩ := Z9 5 _ rfl
      have HP6 := Row.put6 (v0 := .int .i64 ((Hd.mk hV.k hV.m hV.e hV.t hV.na hV.nc hV.ns)).k) (v1 := .int .i64 ((Hd.mk hV.k hV.m hV.e hV.t hV.na hV.nc hV.ns)).m) (v2 := .int .i64 ((Hd.mk hV.k hV.m hV.e hV.t hV.na hV.nc hV.ns)).e) (v3 := .string ((Hd.mk hV.k hV.m hV.e hV.t hV.na hV.nc hV.ns)).t) (v4 := .slice av (Vo.nil).len c) (v5 := .slice ((Hd.mk hV.k hV.m hV.e hV.t hV.na hV.nc hV.ns)).na ((Hd.mk hV.k hV.m hV.e hV.t hV.na hV.nc hV.ns)).ns.length ((Hd.mk hV.k hV.m hV.e hV.t hV.na hV.nc hV.ns)).nc) Z9
      have HO6 := Otr.put6 b (j := W.heap.size) (o := 0) w4 (.int .i64 ((Hd.mk hV.k hV.m hV.e hV.t hV.na hV.nc hV.ns)).k) (.int .i64 ((Hd.mk hV.k hV.m hV.e hV.t hV.na hV.nc hV.ns)).m) (.int .i64 ((Hd.mk hV.k hV.m hV.e hV.t hV.na hV.nc hV.ns)).e) (.string ((Hd.mk hV.k hV.m hV.e hV.t hV.na hV.nc hV.ns)).t) (.slice av (Vo.nil).len c) (.slice ((Hd.mk hV.k hV.m hV.e hV.t hV.na hV.nc hV.ns)).na ((Hd.mk hV.k hV.m hV.e hV.t hV.na hV.nc hV.ns)).ns.length ((Hd.mk hV.k hV.m hV.e hV.t hV.na hV.nc hV.ns)).nc)
      have hb9 := R9.base_leU
      have S10 := S9.otr HO6 hbB (fun g hg => by cases hg; omega)
      have R10 := R9.uptoU (put6_below (B := W.heap.size) (nb := W.heap.size) (o := 0) (Below.refl _ w4) (Nat.le_refl _) (.int .i64 ((Hd.mk hV.k hV.m hV.e hV.t hV.na hV.nc hV.ns)).k) (.int .i64 ((Hd.mk hV.k hV.m hV.e hV.t hV.na hV.nc hV.ns)).m) (.int .i64 ((Hd.mk hV.k hV.m hV.e hV.t hV.na hV.nc hV.ns)).e) (.string ((Hd.mk hV.k hV.m hV.e hV.t hV.na hV.nc hV.ns)).t) (.slice av (Vo.nil).len c) (.slice ((Hd.mk hV.k hV.m hV.e hV.t hV.na hV.nc hV.ns)).na ((Hd.mk hV.k hV.m hV.e hV.t hV.na hV.nc hV.ns)).ns.length ((Hd.mk hV.k hV.m hV.e hV.t hV.na hV.nc hV.ns)).nc)) hlt (by omega)
      have O10 := O9.upto (put6_below (B := W.heap.size) (nb := W.heap.size) (o := 0) (Below.refl _ w4) (Nat.le_refl _) (.int .i64 ((Hd.mk hV.k hV.m hV.e hV.t hV.na hV.nc hV.ns)).k) (.int .i64 ((Hd.mk hV.k hV.m hV.e hV.t hV.na hV.nc hV.ns)).m) (.int .i64 ((Hd.mk hV.k hV.m hV.e hV.t hV.na hV.nc hV.ns)).e) (.string ((Hd.mk hV.k hV.m hV.e hV.t hV.na hV.nc hV.ns)).t) (.slice av (Vo.nil).len c) (.slice ((Hd.mk hV.k hV.m hV.e hV.t hV.na hV.nc hV.ns)).na ((Hd.mk hV.k hV.m hV.e hV.t hV.na hV.nc hV.ns)).ns.length ((Hd.mk hV.k hV.m hV.e hV.t hV.na hV.nc hV.ns)).nc))
      have HS10 : Hid (ValS W.heap.size 3 (szF (d + 1)) (put6 w4 W.heap.size 0 (.int .i64 ((Hd.mk hV.k hV.m hV.e hV.t hV.na hV.nc hV.ns)).k) (.int .i64 ((Hd.mk hV.k hV.m hV.e hV.t hV.na hV.nc hV.ns)).m) (.int .i64 ((Hd.mk hV.k hV.m hV.e hV.t hV.na hV.nc hV.ns)).e) (.string ((Hd.mk hV.k hV.m hV.e hV.t hV.na hV.nc hV.ns)).t) (.slice av (Vo.nil).len c) (.slice ((Hd.mk hV.k hV.m hV.e hV.t hV.na hV.nc hV.ns)).na ((Hd.mk hV.k hV.m hV.e hV.t hV.na hV.nc hV.ns)).ns.length ((Hd.mk hV.k hV.m hV.e hV.t hV.na hV.nc hV.ns)).nc)) ((Hd.mk hV.k hV.m hV.e hV.t hV.na hV.nc hV.ns)) av c Vo.nil ∧ Rd w0 B b a len cap _ (put6 w4 W.heap.size 0 (.int .i64 ((Hd.mk hV.k hV.m hV.e hV.t hV.na hV.nc hV.ns)).k) (.int .i64 ((Hd.mk hV.k hV.m hV.e hV.t hV.na hV.nc hV.ns)).m) (.int .i64 ((Hd.mk hV.k hV.m hV.e hV.t hV.na hV.nc hV.ns)).e) (.string ((Hd.mk hV.k hV.m hV.e hV.t hV.na hV.nc hV.ns)).t) (.slice av (Vo.nil).len c) (.slice ((Hd.mk hV.k hV.m hV.e hV.t hV.na hV.nc hV.ns)).na ((Hd.mk hV.k hV.m hV.e hV.t hV.na hV.nc hV.ns)).ns.length ((Hd.mk hV.k hV.m hV.e hV.t hV.na hV.nc hV.ns)).nc)) ∧ Otb b W (put6 w4 W.heap.size 0 (.int .i64 ((Hd.mk hV.k hV.m hV.e hV.t hV.na hV.nc hV.ns)).k) (.int .i64 ((Hd.mk hV.k hV.m hV.e hV.t hV.na hV.nc hV.ns)).m) (.int .i64 ((Hd.mk hV.k hV.m hV.e hV.t hV.na hV.nc hV.ns)).e) (.string ((Hd.mk hV.k hV.m hV.e hV.t hV.na hV.nc hV.ns)).t) (.slice av (Vo.nil).len c) (.slice ((Hd.mk hV.k hV.m hV.e hV.t hV.na hV.nc hV.ns)).na ((Hd.mk hV.k hV.m hV.e hV.t hV.na hV.nc hV.ns)).ns.length ((Hd.mk hV.k hV.m hV.e hV.t hV.na hV.nc hV.ns)).nc))) := ⟨S10.mono (by omega) (Nat.le_refl _) (Nat.zero_le _), R10, O10⟩
      clear Z9 S9 R9 O9 HO6 S10 R10 O10
      go_wp2_with fail
      show bodyPost Try.prog Try.f48 _ Exit.ret _ (put6 w4 W.heap.size 0 (.int .i64 ((Hd.mk hV.k hV.m hV.e hV.t hV.na hV.nc hV.ns)).k) (.int .i64 ((Hd.mk hV.k hV.m hV.e hV.t hV.na hV.nc hV.ns)).m) (.int .i64 ((Hd.mk hV.k hV.m hV.e hV.t hV.na hV.nc hV.ns)).e) (.string ((Hd.mk hV.k hV.m hV.e hV.t hV.na hV.nc hV.ns)).t) (.slice av (Vo.nil).len c) (.slice ((Hd.mk hV.k hV.m hV.e hV.t hV.na hV.nc hV.ns)).na ((Hd.mk hV.k hV.m hV.e hV.t hV.na hV.nc hV.ns)).ns.length ((Hd.mk hV.k hV.m hV.e hV.t hV.na hV.nc hV.ns)).nc))
      generalize put6 w4 W.heap.size 0 (.int .i64 ((Hd.mk hV.k hV.m hV.e hV.t hV.na hV.nc hV.ns)).k) (.int .i64 ((Hd.mk hV.k hV.m hV.e hV.t hV.na hV.nc hV.ns)).m) (.int .i64 ((Hd.mk hV.k hV.m hV.e hV.t hV.na hV.nc hV.ns)).e) (.string ((Hd.mk hV.k hV.m hV.e hV.t hV.na hV.nc hV.ns)).t) (.slice av (Vo.nil).len c) (.slice ((Hd.mk hV.k hV.m hV.e hV.t hV.na hV.nc hV.ns)).na ((Hd.mk hV.k hV.m hV.e hV.t hV.na hV.nc hV.ns)).ns.length ((Hd.mk hV.k hV.m hV.e hV.t hV.na hV.nc hV.ns)).nc) = W6 at *
      have y0 := (HP6 0 _ rfl).1
      have y1 := (HP6 1 _ rfl).1
      have y2 := (HP6 2 _ rfl).1
      have y3 := (HP6 3 _ rfl).1
      have y4 := (HP6 4 _ rfl).1
      have y5 := (HP6 5 _ rfl).1
      obtain ⟨z1, z2, z3⟩ := HS10.out
      refine bodyPost_ret (v := valV ((Hd.mk hV.k hV.m hV.e hV.t hV.na hV.nc hV.ns)) av (Vo.nil).len c) (by simp [results, Try.results48, go_sem, y0, y1, y2, y3, y4, y5, Vo.len]) rfl (by first | exact ⟨(Hd.mk hV.k hV.m hV.e hV.t hV.na hV.nc hV.ns), Vo.nil, av, c, _, rfl, z1, hqe, z2, z3⟩ | exact ⟨(Hd.mk hV.k hV.m hV.e hV.t hV.na hV.nc hV.ns), Vo.nil, av, c, rfl, z1, _, hqe, z2, z3⟩)
theorem l14Flat_any {w0 : World} {B b : Nat} {a : Option Addr} {len cap : Nat} : ∀ d : Nat, d ≤ 900 → FlatC w0 B b a len cap d := by
  intro d
  induction d with
  | zero => exact fun _ => l14Flat_zero
  | succ d ih => exact fun h => l14Flat_next (by omega) (ih (by omega))
end Go.Proofs.Ytfgchdnpbbgmjaa
