/- My own texts, joined: Ug Uh Ui. -/
import Derived.Test.YtfgchdnpbbgmjaaJFnTomlNot6
import Derived.Deep.RegionHeld3
/- Drawn values: l14Value's two regions that draw: an item more, a field more. -/
namespace Go.Proofs.Ytfgchdnpbbgmjaa
open Go.RowKit
set_option maxRecDepth 100000 in
set_option maxHeartbeats 2000000 in
theorem u14 {Q : Exit → Act → World → Prop} {t2 t3 t4 t5 t7 t8 t9 t10 t11 t12 t13 t14 t15 t16 t17 t18 t19 t20 t21 t22 t23 t24 t25 t26 t27 t28 t29 t30 t31 t32 t33 t34 t35 t36 t37 t38 t39 t40 t41 t42 t43 t44 t45 t46 t47 t48 t49 t50 t51 t52 t53 t54 t55 t56 t57 t58 t59 t60 t61 t62 t63 t64 t65 : Value} {w0 : World} {B b : Nat} {a : Option Addr} {len cap d : Nat} {D p : Int} {W : World} {vb B0 n c : Nat} {av : Option Addr} {F : Vo}
    (H : DrawC w0 B b a len cap d) (hR : Rd w0 B b a len cap p W) (hq : p + pkD d ≤ 80000) (hd : d ≤ 1000) (hD : D = (d : Int) + 1) (hvb : ¬ vb = b) (hvB : vb < B0) (hbB : b < B0) (hBW : B0 ≤ W.heap.size) (hv : W.cell? ⟨vb, 4, none⟩ = some (.slice av n c)) (hvf : W.frozen? ⟨vb, 4, none⟩ = false) (hown : W.ownsRow B0 28 6 (.slice av n c) n F.cells) (hn : n ≤ 10)
    (hp : ∀ p d v a w, Q (.panic p) (Act.put a d v) w → Q (.panic p) a w) (h : ∀ ws v' h G ag cg p' v36 v37 v38 v39 v40 v41 v42 v44, Otr b (blkOf av) W ws → Rd w0 B b a len cap p' ws → p' ≤ p + pkD d → ValS W.heap.size 3 (szD d) ws h ag cg G → ws.ownsRow B0 28 6 v' (n + 1) (F.app (oneV h ag cg G)).cells → (v'.ownBlock = blkOf av ∨ ∃ g, v'.ownBlock = some g ∧ W.heap.size ≤ g ∧ (oneV h ag cg G).Blk (fun x => x < g)) → Q .normal { tmps := (.pointer (some ⟨b, 0, none⟩) :: .int .i64 D :: t2 :: t3 :: t4 :: t5 :: .pointer (some ⟨vb, 0, none⟩) :: t7 :: t8 :: t9 :: t10 :: t11 :: t12 :: t13 :: t14 :: t15 :: t16 :: t17 :: t18 :: t19 :: t20 :: t21 :: t22 :: t23 :: t24 :: t25 :: t26 :: t27 :: t28 :: t29 :: t30 :: t31 :: t32 :: t33 :: t34 :: t35 :: v36 :: v37 :: v38 :: v39 :: v40 :: v41 :: v42 :: v' :: v44 :: t45 :: t46 :: t47 :: t48 :: t49 :: t50 :: t51 :: t52 :: t53 :: t54 :: t55 :: t56 :: t57 :: t58 :: t59 :: t60 :: t61 :: t62 :: t63 :: t64 :: t65 :: []).toArray, defers := [] } (ws.setCell ⟨vb, 4, none⟩ v')) :
    Code.wp Try.prog (Code.region 14 #[{ dst := some 36, op := Op.fieldAddr 28 (Operand.tmp 6) 3, type := 0, pos := "l14_draw.go:577", after := #[], guard := none }, { dst := some 37, op := Op.load 25 (Operand.tmp 36), type := 25, pos := "l14_draw.go:577", after := #[{ on := 0, ground := Ground.data }], guard := none }, { dst := some 38, op := Op.move (Operand.tmp 0), type := 45, pos := "l14_draw.go:577", after := #[], guard := none }, { dst := some 39, op := Op.move (Operand.tmp 1), type := 3, pos := "l14_draw.go:577", after := #[], guard := none }, { dst := some 40, op := Op.binOp BinOp.sub 3 (Operand.tmp 39) (Operand.const (Value.int IntKind.i64 1)) 3, type := 3, pos := "l14_draw.go:577", after := #[{ on := 3, ground := Ground.data }], guard := none }, { dst := some 41, op := Op.call { callee := Callee.value (Operand.func 46), args := #[Operand.tmp 38, Operand.tmp 40], argTypes := #[45, 3] }, type := 28, pos := "l14_draw.go:577", after := #[{ on := 2, ground := Ground.data }, { on := 4, ground := Ground.data }], guard := none }, { dst := some 42, op := Op.buildSlice 25 1 #[(0, Operand.tmp 41)], type := 25, pos := "l14_draw.go:577", after := #[{ on := 5, ground := Ground.data }], guard := none }, { dst := some 43, op := Op.call { callee := Callee.builtin Builtin.append, args := #[Operand.tmp 37, Operand.tmp 42], argTypes := #[25, 25] }, type := 25, pos := "l14_draw.go:577", after := #[{ on := 1, ground := Ground.data }, { on := 6, ground := Ground.data }, { on := 5, ground := Ground.chain }], guard := none }, { dst := some 44, op := Op.fieldAddr 28 (Operand.tmp 6) 3, type := 0, pos := "l14_draw.go:577", after := #[{ on := 0, ground := Ground.phase }, { on := 1, ground := Ground.phase }, { on := 2, ground := Ground.phase }, { on := 3, ground := Ground.phase }, { on := 4, ground := Ground.phase }, { on := 5, ground := Ground.phase }, { on := 6, ground := Ground.phase }, { on := 7, ground := Ground.phase }], guard := none }, { dst := none, op := Op.store 25 (Operand.tmp 44) (Operand.tmp 43), type := 0, pos := "l14_draw.go:577", after := #[{ on := 8, ground := Ground.data }, { on := 7, ground := Ground.data }, { on := 7, ground := Ground.chain }, { on := 0, ground := Ground.phase }, { on := 1, ground := Ground.phase }, { on := 2, ground := Ground.phase }, { on := 3, ground := Ground.phase }, { on := 4, ground := Ground.phase }, { on := 5, ground := Ground.phase }, { on := 6, ground := Ground.phase }, { on := 7, ground := Ground.phase }], guard := none }] true) Q { tmps := (.pointer (some ⟨b, 0, none⟩) :: .int .i64 D :: t2 :: t3 :: t4 :: t5 :: .pointer (some ⟨vb, 0, none⟩) :: t7 :: t8 :: t9 :: t10 :: t11 :: t12 :: t13 :: t14 :: t15 :: t16 :: t17 :: t18 :: t19 :: t20 :: t21 :: t22 :: t23 :: t24 :: t25 :: t26 :: t27 :: t28 :: t29 :: t30 :: t31 :: t32 :: t33 :: t34 :: t35 :: t36 :: t37 :: t38 :: t39 :: t40 :: t41 :: t42 :: t43 :: t44 :: t45 :: t46 :: t47 :: t48 :: t49 :: t50 :: t51 :: t52 :: t53 :: t54 :: t55 :: t56 :: t57 :: t58 :: t59 :: t60 :: t61 :: t62 :: t63 :: t64 :: t65 :: []).toArray, defers := [] } W := by
  obtain ⟨i0, hi, hz0, hz1, hz2⟩ := info_parts valInfo
  have hvl := World.block_lt_of_cell? W _ hv
  have hbl := hR.lt
  have HO : Hid (∀ w', Otb b W w' → (w'.cell? ⟨vb, 4, none⟩ = some (.slice av n c) ∧ w'.frozen? ⟨vb, 4, none⟩ = false)) := fun w' h => ⟨(h.cell hvl hvb).trans hv, (h.frozen hvl hvb).trans hvf⟩
  have HW : Hid (∀ w', Otb b W w' → w'.ownsRow B0 28 6 (.slice av n c) n F.cells) := fun w' h => h.own hown hbB
  have HR : Hid (Rd w0 B b a len cap p W.drew) := hR.below ((Below.refl _ _).drew)
  have HZ : Hid (W.drew.heap.size = W.heap.size) := rfl
  have hO := (Otb.refl b W).drew
  have HOd : Hid (Otb b W W.drew) := hO
  have HDD : Hid (D = (d : Int) + 1) := hD
  clear hv hvf hown hR hD
  refine wp_region_held_drew (S := fun _ => True) (by kernel_rfl) trivial (fun _ => ?_)
  generalize W.drew = Wd at *
  have hSw : (fun _ : World => True) Wd := trivial
  refine wpAnyH_take (i := 0) (v := .pointer (some ⟨vb, 4, none⟩)) rfl (by kernel_rfl) (by kernel_rfl) (by kernel_rfl) (fun _ _ _ h => hp _ _ _ _ _ h) (Or.inl ⟨by rfl, ?_⟩) (by assumption) ?_
  · intro w hSw
    (try dsimp only at hSw)
    go_simp
  (try simp only [Act.put, List.getElem_toArray, List.getElem_cons_zero, List.setIfInBounds_toArray, List.set_cons_zero, List.set_cons_succ])
  refine wpAnyH_take (i := 2) (v := .pointer (some ⟨b, 0, none⟩)) rfl (by kernel_rfl) (by kernel_rfl) (by kernel_rfl) (fun _ _ _ h => hp _ _ _ _ _ h) (Or.inl ⟨by rfl, ?_⟩) (by assumption) ?_
  · intro w hSw
    (try dsimp only at hSw)
    go_simp
  (try simp only [Act.put, List.getElem_toArray, List.getElem_cons_zero, List.getElem_cons_succ, List.setIfInBounds_toArray, List.set_cons_zero, List.set_cons_succ])
  refine wpAnyH_take (i := 3) (v := .int .i64 D) rfl (by kernel_rfl) (by kernel_rfl) (by kernel_rfl) (fun _ _ _ h => hp _ _ _ _ _ h) (Or.inl ⟨by rfl, ?_⟩) (by assumption) ?_
  · intro w hSw
    (try dsimp only at hSw)
    go_simp
  (try simp only [Act.put, List.getElem_toArray, List.getElem_cons_zero, List.getElem_cons_succ, List.setIfInBounds_toArray, List.set_cons_zero, List.set_cons_succ])
  refine wpAnyH_take (i := 4) (v := .int .i64 (d : Nat)) rfl (by kernel_rfl) (by kernel_rfl) (by kernel_rfl) (fun _ _ _ h => hp _ _ _ _ _ h) (Or.inl ⟨by rfl, ?_⟩) (by assumption) ?_
  · intro w hSw
    (try dsimp only at hSw)
    (go_simp; rw [IntKind.wrap_i64] <;> (have := HDD.out; omega))
  (try simp only [Act.put, List.getElem_toArray, List.getElem_cons_zero, List.getElem_cons_succ, List.setIfInBounds_toArray, List.set_cons_zero, List.set_cons_succ])
  clear hSw
  refine wpAnyH_ready (rs := [1, 5]) (by kernel_rfl) (by simp) ?_
  refine AllReadyH.cons rfl (fun K hK => ?_) (AllReadyH.cons rfl (fun K hK => ?_) AllReadyH.nil)
  · skip
    obtain ⟨hcl, _⟩ := HO.out _ hO
    go_simp
    refine hK.out _ _ trivial (fun _ => ?_)
    clear hK K hcl
    (try simp only [Act.put, List.getElem_toArray, List.getElem_cons_zero, List.getElem_cons_succ, List.setIfInBounds_toArray, List.set_cons_zero, List.set_cons_succ])
    refine wpAnyH_ready (rs := [5]) (by kernel_rfl) (by simp) ?_
    refine AllReadyH.cons rfl (fun K hK => ?_) AllReadyH.nil
    have hH := H p Wd HR.out hq
    go_simp
    refine hH.mono ?_
    rintro r w1 ⟨h1, G, ag, cg, p1, rfl, hval, hp1, hR1, hO1⟩
    have hO1' := HOd.out.trans hO1
    go_wp2_with fail
    refine hK.out _ _ trivial (fun _ => ?_)
    clear hK K hH hO hO1
    have hO := hO1'
    clear hO1'
    refine wpAnyH_ready (rs := [6]) (by kernel_rfl) (by simp) ?_
    refine AllReadyH.cons rfl (fun K hK => ?_) AllReadyH.nil
    go_simp
    have hO2 := hO.alloc (.cells #[.int .i64 h1.k, .int .i64 h1.m, .int .i64 h1.e, .string h1.t, .slice ag G.len cg, .slice h1.na h1.ns.length h1.nc] 28)
    have hel : Own0 (w1.alloc (.cells #[.int .i64 h1.k, .int .i64 h1.m, .int .i64 h1.e, .string h1.t, .slice ag G.len cg, .slice h1.na h1.ns.length h1.nc] 28)) W.heap.size w1.heap.size (six h1 ag G.len cg) := Own0.new w1 W.heap.size [.int .i64 h1.k, .int .i64 h1.m, .int .i64 h1.e, .string h1.t, .slice ag G.len cg, .slice h1.na h1.ns.length h1.nc] 28 hO.1
    have hbW : Below w1.heap.size w1 (w1.alloc (.cells #[.int .i64 h1.k, .int .i64 h1.m, .int .i64 h1.e, .string h1.t, .slice ag G.len cg, .slice h1.na h1.ns.length h1.nc] 28)) := (Below.refl _ _).alloc (Nat.le_refl _) _
    have hsz : (w1.alloc (.cells #[.int .i64 h1.k, .int .i64 h1.m, .int .i64 h1.e, .string h1.t, .slice ag G.len cg, .slice h1.na h1.ns.length h1.nc] 28)).heap.size = w1.heap.size + 1 := by simp
    have hval2 := hval.below hbW
    have hR2 := hR1.below hbW
    have hbl2 := hval.blk
    refine hK.out _ _ trivial (fun _ => ?_)
    clear hK K hR1 hbW hO
    have HSZ : Hid ((w1.alloc (.cells #[.int .i64 h1.k, .int .i64 h1.m, .int .i64 h1.e, .string h1.t, .slice ag G.len cg, .slice h1.na h1.ns.length h1.nc] 28)).heap.size = w1.heap.size + 1) := hsz
    have HBL : Hid ((oneV h1 ag cg G).Blk (fun x => Wd.heap.size ≤ x ∧ x < w1.heap.size)) := hbl2
    clear hsz hbl2
    obtain ⟨g1, hg1⟩ : ∃ g, w1.heap.size = g := ⟨_, rfl⟩
    rw [hg1] at hel HSZ HBL ⊢
    generalize w1.alloc (.cells #[.int .i64 h1.k, .int .i64 h1.m, .int .i64 h1.e, .string h1.t, .slice ag G.len cg, .slice h1.na h1.ns.length h1.nc] 28) = w2 at *
    clear hg1 hval
    have hO := hO2
    clear hO2
    refine wpAnyH_ready (rs := [7]) (by kernel_rfl) (by simp) ?_
    refine AllReadyH.cons rfl (fun K hK => ?_) AllReadyH.nil
    have hown := HW.out _ hO
    refine wp_append_lie w2 _ _ 25 rfl B0 28 i0 _ 6 88 Try.underlying25 hi hz0 hz1 hz2 rfl (by decide) (.slice av n c) n F.cells rfl hown (some ⟨g1, 0, none⟩) 1 1 (six h1 ag G.len cg) rfl rfl (hel.src 1) six_one (by unfold maxLen; omega) (by omega) (by have := hO.1; omega) ?_
    intro v' w3 hown3 hgr hob
    rw [ownBlock_blkOf] at hgr hob
    have hO3 := (hO.otr (blkOf av)).grown hgr
    have hlt3 : ∀ g, blkOf av = some g → g < W.heap.size := fun g hg => by
      have h5 := (HW.out _ HOd.out).lt g (by rw [ownBlock_blkOf]; exact hg)
      have := HZ.out
      omega
    have hge3 : ∀ g, blkOf av = some g → B0 ≤ g := fun g hg => ((HW.out _ HOd.out).lt g (by rw [ownBlock_blkOf]; exact hg)).1
    have hval3 : ValS W.heap.size 3 (szD d) w3 h1 ag cg G := by rw [← HZ.out]; exact hval2.otr ((Otr.refl b (blkOf av) w2).grown hgr) (by have := HZ.out; omega) (fun g hg => by have := hlt3 g hg; have := HZ.out; omega)
    have hR3 : Rd w0 B b a len cap p1 w3 := hR2.uptoU (B' := B0) ((Below.refl _ _).grown hgr (by have := hO.1; omega) hge3) hbB (by have := hR2.base_leU; omega)
    have hS3 : w3.cell? ⟨vb, 4, none⟩ = some (.slice av n c) ∧ w3.frozen? ⟨vb, 4, none⟩ = false := ⟨(hgr.cell (HO.out _ hO).1 (fun e => by have := hge3 vb e.symm; omega)), by
      rw [World.frozen?_of_block (a := ⟨vb, 4, none⟩) (hgr.block vb (World.block_lt_of_cell? w2 _ (HO.out _ hO).1) (fun e => by have := hge3 vb e.symm; omega))]; exact (HO.out _ hO).2⟩
    have HC : Hid (w3.ownsRow B0 28 6 v' (n + 1) (F.app (oneV h1 ag cg G)).cells) := by unfold Hid; rw [Vo.app_cells, Vo.cells_oneV]; exact hown3
    have HOB : Hid (v'.ownBlock = blkOf av ∨ ∃ g, v'.ownBlock = some g ∧ W.heap.size ≤ g ∧ (oneV h1 ag cg G).Blk (fun x => x < g)) := by
      rcases hob with hob | hob
      · exact .inl hob
      · exact .inr ⟨_, hob, hO.1, HBL.out.mono (fun x hx => by have := HSZ.out; omega)⟩
    refine hK.out _ _ trivial (fun _ => ?_)
    clear hK K hown3 hgr hob hval2 hR2 hown hel hO
    (try simp only [Act.put, List.getElem_toArray, List.getElem_cons_zero, List.getElem_cons_succ, List.setIfInBounds_toArray, List.set_cons_zero, List.set_cons_succ])
    have hSw : (fun _ : World => True) w3 := trivial
    refine wpAnyH_take (i := 8) (v := .pointer (some ⟨vb, 4, none⟩)) rfl (by kernel_rfl) (by kernel_rfl) (by kernel_rfl) (fun _ _ _ h => hp _ _ _ _ _ h) (Or.inl ⟨by rfl, ?_⟩) (by assumption) ?_
    · intro w hSw
      (try dsimp only at hSw)
      go_simp
    (try simp only [Act.put, List.getElem_toArray, List.getElem_cons_zero, List.getElem_cons_succ, List.setIfInBounds_toArray, List.set_cons_zero, List.set_cons_succ])
    obtain ⟨g9, c9, rfl, _, _⟩ := HC.out.form (by omega)
    obtain ⟨hc3, hf3⟩ := hS3
    refine wpAnyH_ready (rs := [9]) (by kernel_rfl) (by simp) ?_
    refine AllReadyH.cons rfl (fun K hK => ?_) AllReadyH.nil
    go_simp
    refine hK.out _ _ trivial (fun _ => ?_)
    refine wpAnyH_done (by kernel_rfl) ?_ _
    exact h _ _ _ _ _ _ _ _ _ _ _ _ _ _ _ hO3 hR3 hp1 hval3 HC.out HOB.out
  · skip
    have hH := H p Wd HR.out hq
    go_simp
    refine hH.mono ?_
    rintro r w1 ⟨h1, G, ag, cg, p1, rfl, hval, hp1, hR1, hO1⟩
    have hO1' := HOd.out.trans hO1
    go_wp2_with fail
    refine hK.out _ _ trivial (fun _ => ?_)
    clear hK K hH hO hO1
    have hO := hO1'
    clear hO1'
    refine wpAnyH_ready (rs := [1, 6]) (by kernel_rfl) (by simp) ?_
    refine AllReadyH.cons rfl (fun K hK => ?_) (AllReadyH.cons rfl (fun K hK => ?_) AllReadyH.nil)
    · skip
      obtain ⟨hcl, _⟩ := HO.out _ hO
      go_simp
      refine hK.out _ _ trivial (fun _ => ?_)
      clear hK K hcl
      (try simp only [Act.put, List.getElem_toArray, List.getElem_cons_zero, List.getElem_cons_succ, List.setIfInBounds_toArray, List.set_cons_zero, List.set_cons_succ])
      refine wpAnyH_ready (rs := [6]) (by kernel_rfl) (by simp) ?_
      refine AllReadyH.cons rfl (fun K hK => ?_) AllReadyH.nil
      go_simp
      have hO2 := hO.alloc (.cells #[.int .i64 h1.k, .int .i64 h1.m, .int .i64 h1.e, .string h1.t, .slice ag G.len cg, .slice h1.na h1.ns.length h1.nc] 28)
      have hel : Own0 (w1.alloc (.cells #[.int .i64 h1.k, .int .i64 h1.m, .int .i64 h1.e, .string h1.t, .slice ag G.len cg, .slice h1.na h1.ns.length h1.nc] 28)) W.heap.size w1.heap.size (six h1 ag G.len cg) := Own0.new w1 W.heap.size [.int .i64 h1.k, .int .i64 h1.m, .int .i64 h1.e, .string h1.t, .slice ag G.len cg, .slice h1.na h1.ns.length h1.nc] 28 hO.1
      have hbW : Below w1.heap.size w1 (w1.alloc (.cells #[.int .i64 h1.k, .int .i64 h1.m, .int .i64 h1.e, .string h1.t, .slice ag G.len cg, .slice h1.na h1.ns.length h1.nc] 28)) := (Below.refl _ _).alloc (Nat.le_refl _) _
      have hsz : (w1.alloc (.cells #[.int .i64 h1.k, .int .i64 h1.m, .int .i64 h1.e, .string h1.t, .slice ag G.len cg, .slice h1.na h1.ns.length h1.nc] 28)).heap.size = w1.heap.size + 1 := by simp
      have hval2 := hval.below hbW
      have hR2 := hR1.below hbW
      have hbl2 := hval.blk
      refine hK.out _ _ trivial (fun _ => ?_)
      clear hK K hR1 hbW hO
      have HSZ : Hid ((w1.alloc (.cells #[.int .i64 h1.k, .int .i64 h1.m, .int .i64 h1.e, .string h1.t, .slice ag G.len cg, .slice h1.na h1.ns.length h1.nc] 28)).heap.size = w1.heap.size + 1) := hsz
      have HBL : Hid ((oneV h1 ag cg G).Blk (fun x => Wd.heap.size ≤ x ∧ x < w1.heap.size)) := hbl2
      clear hsz hbl2
      obtain ⟨g1, hg1⟩ : ∃ g, w1.heap.size = g := ⟨_, rfl⟩
      rw [hg1] at hel HSZ HBL ⊢
      generalize w1.alloc (.cells #[.int .i64 h1.k, .int .i64 h1.m, .int .i64 h1.e, .string h1.t, .slice ag G.len cg, .slice h1.na h1.ns.length h1.nc] 28) = w2 at *
      clear hg1 hval
      have hO := hO2
      clear hO2
      refine wpAnyH_ready (rs := [7]) (by kernel_rfl) (by simp) ?_
      refine AllReadyH.cons rfl (fun K hK => ?_) AllReadyH.nil
      have hown := HW.out _ hO
      refine wp_append_lie w2 _ _ 25 rfl B0 28 i0 _ 6 88 Try.underlying25 hi hz0 hz1 hz2 rfl (by decide) (.slice av n c) n F.cells rfl hown (some ⟨g1, 0, none⟩) 1 1 (six h1 ag G.len cg) rfl rfl (hel.src 1) six_one (by unfold maxLen; omega) (by omega) (by have := hO.1; omega) ?_
      intro v' w3 hown3 hgr hob
      rw [ownBlock_blkOf] at hgr hob
      have hO3 := (hO.otr (blkOf av)).grown hgr
      have hlt3 : ∀ g, blkOf av = some g → g < W.heap.size := fun g hg => by
        have h5 := (HW.out _ HOd.out).lt g (by rw [ownBlock_blkOf]; exact hg)
        have := HZ.out
        omega
      have hge3 : ∀ g, blkOf av = some g → B0 ≤ g := fun g hg => ((HW.out _ HOd.out).lt g (by rw [ownBlock_blkOf]; exact hg)).1
      have hval3 : ValS W.heap.size 3 (szD d) w3 h1 ag cg G := by rw [← HZ.out]; exact hval2.otr ((Otr.refl b (blkOf av) w2).grown hgr) (by have := HZ.out; omega) (fun g hg => by have := hlt3 g hg; have := HZ.out; omega)
      have hR3 : Rd w0 B b a len cap p1 w3 := hR2.uptoU (B' := B0) ((Below.refl _ _).grown hgr (by have := hO.1; omega) hge3) hbB (by have := hR2.base_leU; omega)
      have hS3 : w3.cell? ⟨vb, 4, none⟩ = some (.slice av n c) ∧ w3.frozen? ⟨vb, 4, none⟩ = false := ⟨(hgr.cell (HO.out _ hO).1 (fun e => by have := hge3 vb e.symm; omega)), by
        rw [World.frozen?_of_block (a := ⟨vb, 4, none⟩) (hgr.block vb (World.block_lt_of_cell? w2 _ (HO.out _ hO).1) (fun e => by have := hge3 vb e.symm; omega))]; exact (HO.out _ hO).2⟩
      have HC : Hid (w3.ownsRow B0 28 6 v' (n + 1) (F.app (oneV h1 ag cg G)).cells) := by unfold Hid; rw [Vo.app_cells, Vo.cells_oneV]; exact hown3
      have HOB : Hid (v'.ownBlock = blkOf av ∨ ∃ g, v'.ownBlock = some g ∧ W.heap.size ≤ g ∧ (oneV h1 ag cg G).Blk (fun x => x < g)) := by
        rcases hob with hob | hob
        · exact .inl hob
        · exact .inr ⟨_, hob, hO.1, HBL.out.mono (fun x hx => by have := HSZ.out; omega)⟩
      refine hK.out _ _ trivial (fun _ => ?_)
      clear hK K hown3 hgr hob hval2 hR2 hown hel hO
      (try simp only [Act.put, List.getElem_toArray, List.getElem_cons_zero, List.getElem_cons_succ, List.setIfInBounds_toArray, List.set_cons_zero, List.set_cons_succ])
      have hSw : (fun _ : World => True) w3 := trivial
      refine wpAnyH_take (i := 8) (v := .pointer (some ⟨vb, 4, none⟩)) rfl (by kernel_rfl) (by kernel_rfl) (by kernel_rfl) (fun _ _ _ h => hp _ _ _ _ _ h) (Or.inl ⟨by rfl, ?_⟩) (by assumption) ?_
      · intro w hSw
        (try dsimp only at hSw)
        go_simp
      (try simp only [Act.put, List.getElem_toArray, List.getElem_cons_zero, List.getElem_cons_succ, List.setIfInBounds_toArray, List.set_cons_zero, List.set_cons_succ])
      obtain ⟨g9, c9, rfl, _, _⟩ := HC.out.form (by omega)
      obtain ⟨hc3, hf3⟩ := hS3
      refine wpAnyH_ready (rs := [9]) (by kernel_rfl) (by simp) ?_
      refine AllReadyH.cons rfl (fun K hK => ?_) AllReadyH.nil
      go_simp
      refine hK.out _ _ trivial (fun _ => ?_)
      refine wpAnyH_done (by kernel_rfl) ?_ _
      exact h _ _ _ _ _ _ _ _ _ _ _ _ _ _ _ hO3 hR3 hp1 hval3 HC.out HOB.out
    · skip
      go_simp
      have hO2 := hO.alloc (.cells #[.int .i64 h1.k, .int .i64 h1.m, .int .i64 h1.e, .string h1.t, .slice ag G.len cg, .slice h1.na h1.ns.length h1.nc] 28)
      have hel : Own0 (w1.alloc (.cells #[.int .i64 h1.k, .int .i64 h1.m, .int .i64 h1.e, .string h1.t, .slice ag G.len cg, .slice h1.na h1.ns.length h1.nc] 28)) W.heap.size w1.heap.size (six h1 ag G.len cg) := Own0.new w1 W.heap.size [.int .i64 h1.k, .int .i64 h1.m, .int .i64 h1.e, .string h1.t, .slice ag G.len cg, .slice h1.na h1.ns.length h1.nc] 28 hO.1
      have hbW : Below w1.heap.size w1 (w1.alloc (.cells #[.int .i64 h1.k, .int .i64 h1.m, .int .i64 h1.e, .string h1.t, .slice ag G.len cg, .slice h1.na h1.ns.length h1.nc] 28)) := (Below.refl _ _).alloc (Nat.le_refl _) _
      have hsz : (w1.alloc (.cells #[.int .i64 h1.k, .int .i64 h1.m, .int .i64 h1.e, .string h1.t, .slice ag G.len cg, .slice h1.na h1.ns.length h1.nc] 28)).heap.size = w1.heap.size + 1 := by simp
      have hval2 := hval.below hbW
      have hR2 := hR1.below hbW
      have hbl2 := hval.blk
      refine hK.out _ _ trivial (fun _ => ?_)
      clear hK K hR1 hbW hO
      have HSZ : Hid ((w1.alloc (.cells #[.int .i64 h1.k, .int .i64 h1.m, .int .i64 h1.e, .string h1.t, .slice ag G.len cg, .slice h1.na h1.ns.length h1.nc] 28)).heap.size = w1.heap.size + 1) := hsz
      have HBL : Hid ((oneV h1 ag cg G).Blk (fun x => Wd.heap.size ≤ x ∧ x < w1.heap.size)) := hbl2
      clear hsz hbl2
      obtain ⟨g1, hg1⟩ : ∃ g, w1.heap.size = g := ⟨_, rfl⟩
      rw [hg1] at hel HSZ HBL ⊢
      generalize w1.alloc (.cells #[.int .i64 h1.k, .int .i64 h1.m, .int .i64 h1.e, .string h1.t, .slice ag G.len cg, .slice h1.na h1.ns.length h1.nc] 28) = w2 at *
      clear hg1 hval
      have hO := hO2
      clear hO2
      refine wpAnyH_ready (rs := [1]) (by kernel_rfl) (by simp) ?_
      refine AllReadyH.cons rfl (fun K hK => ?_) AllReadyH.nil
      obtain ⟨hcl, _⟩ := HO.out _ hO
      go_simp
      refine hK.out _ _ trivial (fun _ => ?_)
      clear hK K hcl
      (try simp only [Act.put, List.getElem_toArray, List.getElem_cons_zero, List.getElem_cons_succ, List.setIfInBounds_toArray, List.set_cons_zero, List.set_cons_succ])
      refine wpAnyH_ready (rs := [7]) (by kernel_rfl) (by simp) ?_
      refine AllReadyH.cons rfl (fun K hK => ?_) AllReadyH.nil
      have hown := HW.out _ hO
      refine wp_append_lie w2 _ _ 25 rfl B0 28 i0 _ 6 88 Try.underlying25 hi hz0 hz1 hz2 rfl (by decide) (.slice av n c) n F.cells rfl hown (some ⟨g1, 0, none⟩) 1 1 (six h1 ag G.len cg) rfl rfl (hel.src 1) six_one (by unfold maxLen; omega) (by omega) (by have := hO.1; omega) ?_
      intro v' w3 hown3 hgr hob
      rw [ownBlock_blkOf] at hgr hob
      have hO3 := (hO.otr (blkOf av)).grown hgr
      have hlt3 : ∀ g, blkOf av = some g → g < W.heap.size := fun g hg => by
        have h5 := (HW.out _ HOd.out).lt g (by rw [ownBlock_blkOf]; exact hg)
        have := HZ.out
        omega
      have hge3 : ∀ g, blkOf av = some g → B0 ≤ g := fun g hg => ((HW.out _ HOd.out).lt g (by rw [ownBlock_blkOf]; exact hg)).1
      have hval3 : ValS W.heap.size 3 (szD d) w3 h1 ag cg G := by rw [← HZ.out]; exact hval2.otr ((Otr.refl b (blkOf av) w2).grown hgr) (by have := HZ.out; omega) (fun g hg => by have := hlt3 g hg; have := HZ.out; omega)
      have hR3 : Rd w0 B b a len cap p1 w3 := hR2.uptoU (B' := B0) ((Below.refl _ _).grown hgr (by have := hO.1; omega) hge3) hbB (by have := hR2.base_leU; omega)
      have hS3 : w3.cell? ⟨vb, 4, none⟩ = some (.slice av n c) ∧ w3.frozen? ⟨vb, 4, none⟩ = false := ⟨(hgr.cell (HO.out _ hO).1 (fun e => by have := hge3 vb e.symm; omega)), by
        rw [World.frozen?_of_block (a := ⟨vb, 4, none⟩) (hgr.block vb (World.block_lt_of_cell? w2 _ (HO.out _ hO).1) (fun e => by have := hge3 vb e.symm; omega))]; exact (HO.out _ hO).2⟩
      have HC : Hid (w3.ownsRow B0 28 6 v' (n + 1) (F.app (oneV h1 ag cg G)).cells) := by unfold Hid; rw [Vo.app_cells, Vo.cells_oneV]; exact hown3
      have HOB : Hid (v'.ownBlock = blkOf av ∨ ∃ g, v'.ownBlock = some g ∧ W.heap.size ≤ g ∧ (oneV h1 ag cg G).Blk (fun x => x < g)) := by
        rcases hob with hob | hob
        · exact .inl hob
        · exact .inr ⟨_, hob, hO.1, HBL.out.mono (fun x hx => by have := HSZ.out; omega)⟩
      refine hK.out _ _ trivial (fun _ => ?_)
      clear hK K hown3 hgr hob hval2 hR2 hown hel hO
      (try simp only [Act.put, List.getElem_toArray, List.getElem_cons_zero, List.getElem_cons_succ, List.setIfInBounds_toArray, List.set_cons_zero, List.set_cons_succ])
      have hSw : (fun _ : World => True) w3 := trivial
      refine wpAnyH_take (i := 8) (v := .pointer (some ⟨vb, 4, none⟩)) rfl (by kernel_rfl) (by kernel_rfl) (by kernel_rfl) (fun _ _ _ h => hp _ _ _ _ _ h) (Or.inl ⟨by rfl, ?_⟩) (by assumption) ?_
      · intro w hSw
        (try dsimp only at hSw)
        go_simp
      (try simp only [Act.put, List.getElem_toArray, List.getElem_cons_zero, List.getElem_cons_succ, List.setIfInBounds_toArray, List.set_cons_zero, List.set_cons_succ])
      obtain ⟨g9, c9, rfl, _, _⟩ := HC.out.form (by omega)
      obtain ⟨hc3, hf3⟩ := hS3
      refine wpAnyH_ready (rs := [9]) (by kernel_rfl) (by simp) ?_
      refine AllReadyH.cons rfl (fun K hK => ?_) AllReadyH.nil
      go_simp
      refine hK.out _ _ trivial (fun _ => ?_)
      refine wpAnyH_done (by kernel_rfl) ?_ _
      exact h _ _ _ _ _ _ _ _ _ _ _ _ _ _ _ hO3 hR3 hp1 hval3 HC.out HOB.out
end Go.Proofs.Ytfgchdnpbbgmjaa
/- Drawn values: a value that was drawn, put into an object that was drawn; l14Value's region that does so. -/
namespace Go.Proofs.Ytfgchdnpbbgmjaa
open Go.RowKit
theorem insV_wt (X F : Vo) (k : Nat) : (insV X F k).wt = F.wt + X.wt := by
  have := congrArg Vo.wt (Vo.take_drop F k)
  rw [Vo.app_wt] at this
  unfold insV; rw [Vo.app_wt, Vo.app_wt]; omega
theorem insN_length (s : ByteArray) (ss : List ByteArray) : (insN s ss).length = ss.length + 1 := by
  have := plc_le s ss
  unfold insN
  rw [List.length_append, List.length_cons, List.length_take, List.length_drop]; omega
theorem insN_mem {s : ByteArray} {ss : List ByteArray} {x : ByteArray} (h : x ∈ insN s ss) : x = s ∨ x ∈ ss := by
  unfold insN at h
  rcases List.mem_append.1 h with h | h
  · exact .inr (List.mem_of_mem_take h)
  · rcases List.mem_cons.1 h with h | h
    · exact .inl h
    · exact .inr (List.mem_of_mem_drop h)
theorem ValS.into {B0 B1 L Lg M d : Nat} {w w' : World} {h h1 : Hd} {a ag : Option Addr} {c cg : Nat} {F G : Vo} {s : ByteArray} {ok : Bool} {r : Ending} (hv : ValS B0 L M w h a c F) (hl : F.len = h.ns.length) (hg : ValS B1 Lg d w h1 ag cg G) (hLg : Lg ≤ 4) (hB : B0 ≤ B1) (hs : s.size ≤ 10)
    (hB0 : B0 ≤ w.heap.size) (hI : IntoC h a c F s (oneV h1 ag cg G) ok w w' r) (hb : Below w.heap.size w w') :
    ∃ h' a' c' F' ok', r = .returned (.tuple #[valV h' a' F'.len c', .bool ok']) ∧ ValS B0 (L + 1) (M + d + 1) w' h' a' c' F' ∧ F'.len = h'.ns.length := by
  rcases hI with ⟨_, rfl⟩ | ⟨_, na, nc, a', c', rfl, hn, hf⟩
  · exact ⟨h, a, c, F, false, rfl, (hv.below hb).mono (Nat.le_refl _) (by omega) (by omega), hl⟩
  · obtain ⟨⟨⟨l1, l2, l3, l4⟩, l5, l6, l7⟩, h6, h1', hk, hB1⟩ := hv
    have hg1 := (hg.below hb)
    have gone := hg1.one
    have gblk := hg.blk
    have gwt := oneV_wt hg hLg
    have gfew := oneV_few hg hLg
    have gs : (oneV h1 ag cg G).size = G.size + 1 := rfl
    have gM := hg.1.1.2.1
    have hlen : (insV (oneV h1 ag cg G) F (plc s h.ns)).len = F.len + 1 := insV_len _ _ _
    have hsize := insV_size (oneV h1 ag cg G) F (plc s h.ns)
    have hwt := insV_wt (oneV h1 ag cg G) F (plc s h.ns)
    have hfar : ∀ {x : Nat} {b' : Option Addr} {n' c'' : Nat} {e : TypeId} {size : Nat} {xs : List Value}, w'.ownsRow w.heap.size e size (.slice b' n' c'') n' xs → x < w.heap.size → some x ≠ blkOf b' := fun hr hx e => by
      have := (hr.lt _ (by rw [ownBlock_blkOf]; exact e.symm)).1
      omega
    refine ⟨hdObj na nc (insN s h.ns), a', c', insV (oneV h1 ag cg G) F (plc s h.ns), ok, by rw [hlen], ⟨⟨⟨by omega, by omega, by omega, ⟨insV_few gfew l4.1, fun _ => (by rw [hlen]; show F.len + 1 ≤ (insN s h.ns).length; rw [insN_length]; omega), insV_nob (oneV_nob hg) l4.2.2⟩⟩, ?_, ?_, ?_⟩, ?_, ?_, ?_, ?_⟩, ?_⟩
    · show (insN s h.ns).length ≤ L + 1
      rw [insN_length]; omega
    · show (ByteArray.mk #[]).size ≤ 7
      exact Nat.zero_le _
    · intro x hx
      rcases insN_mem hx with rfl | hx
      · exact hs
      · exact l7 x hx
    · rw [hlen]; exact own_mono hf hB0
    · exact own_mono hn hB0
    · exact ⟨insV_kin gone (Vo.kin_grow hb hk.1), insV_cl hg1.oneCl (hk.2.below hb)⟩
    · refine insV_blk (gblk.mono fun x hx => ⟨⟨by omega, Nat.lt_of_lt_of_le hx.2 hb.size⟩, hfar hf hx.2, hfar hn hx.2⟩) (hB1.mono fun x hx => ⟨⟨hx.1.1, Nat.lt_of_lt_of_le hx.1.2 hb.size⟩, hfar hf hx.1.2, hfar hn hx.1.2⟩)
    · rw [hlen, hl]; exact (insN_length s h.ns).symm
/-- the names that a drawn object has -/
def drawnFields : List ByteArray := [⟨#[97]⟩, ⟨#[98]⟩, ⟨#[99]⟩, ⟨#[108, 111, 110, 103, 95, 110, 97, 109, 101, 49]⟩, ⟨#[120]⟩]
theorem drawnFields_size : ∀ s ∈ drawnFields, s.size ≤ 10 := by decide +kernel
theorem Row.otb {b c : Nat} {W w' : World} (h : Otb b W w') (hb : ¬ c = b) {vs : List Value} (hR : Row W c vs) : Row w' c vs := fun i v hi => by
  have hl := World.block_lt_of_cell? W _ (hR i v hi).1
  exact ⟨(h.cell hl hb).trans (hR i v hi).1, (h.frozen hl hb).trans (hR i v hi).2⟩
set_option maxRecDepth 100000 in
set_option maxHeartbeats 2000000 in
theorem u19 {Q : Exit → Act → World → Prop} {t2 t3 t4 t5 t7 t8 t9 t10 t11 t12 t13 t14 t15 t16 t17 t18 t19 t20 t21 t22 t23 t24 t25 t26 t27 t28 t29 t30 t31 t32 t33 t34 t35 t36 t37 t38 t39 t40 t41 t42 t43 t44 t45 t46 t47 t48 t49 t50 t51 t52 t53 t54 t55 t56 t57 t58 t59 t60 t61 t62 t63 t64 t65 : Value} {w0 : World} {B b : Nat} {a : Option Addr} {len cap d : Nat} {D p : Int} {W : World} {vb B0 L M c : Nat} {h0 : Hd} {av : Option Addr} {F : Vo}
    (H : DrawC w0 B b a len cap d) (hR : Rd w0 B b a len cap p W) (hq : p + 1 + pkD d ≤ 80000) (hd : d ≤ 1000) (hD : D = (d : Int) + 1) (hvb : ¬ vb = b) (hbB : b < B0) (hBW : B0 ≤ W.heap.size) (hv : Row W vb (six h0 av F.len c)) (hval : ValS B0 L M W h0 av c F) (hl : F.len = h0.ns.length) (hL : L ≤ 100)
    (hp : ∀ p d v a w, Q (.panic p) (Act.put a d v) w → Q (.panic p) a w) (h : ∀ ws h' a' c' F' p' v53 v54 v55 v56 v57 v58 v59 v60 v61 v62 v63 v64, Otb b W ws → Rd w0 B b a len cap p' ws → p' ≤ p + 1 + pkD d → ValS B0 (L + 1) (M + szD d + 1) ws h' a' c' F' → F'.len = h'.ns.length → Q .normal { tmps := (.pointer (some ⟨b, 0, none⟩) :: .int .i64 D :: t2 :: t3 :: t4 :: t5 :: .pointer (some ⟨vb, 0, none⟩) :: t7 :: t8 :: t9 :: t10 :: t11 :: t12 :: t13 :: t14 :: t15 :: t16 :: t17 :: t18 :: t19 :: t20 :: t21 :: t22 :: t23 :: t24 :: t25 :: t26 :: t27 :: t28 :: t29 :: t30 :: t31 :: t32 :: t33 :: t34 :: t35 :: t36 :: t37 :: t38 :: t39 :: t40 :: t41 :: t42 :: t43 :: t44 :: t45 :: t46 :: t47 :: t48 :: t49 :: t50 :: t51 :: t52 :: v53 :: v54 :: v55 :: v56 :: v57 :: v58 :: v59 :: v60 :: v61 :: v62 :: v63 :: v64 :: t65 :: []).toArray, defers := [] } (put6 ws vb 0 (.int .i64 h'.k) (.int .i64 h'.m) (.int .i64 h'.e) (.string h'.t) (.slice a' F'.len c') (.slice h'.na h'.ns.length h'.nc))) :
    Code.wp Try.prog (Code.region 19 #[{ dst := some 54, op := Op.load 28 (Operand.tmp 6), type := 28, pos := "l14_draw.go:581", after := #[], guard := none }, { dst := some 55, op := Op.move (Operand.tmp 0), type := 45, pos := "l14_draw.go:581", after := #[], guard := none }, { dst := some 56, op := Op.buildSlice 26 5 #[(0, Operand.const (Value.string { data := #[97] })), (1, Operand.const (Value.string { data := #[98] })), (2, Operand.const (Value.string { data := #[99] })), (3, Operand.const (Value.string { data := #[108, 111, 110, 103, 95, 110, 97, 109, 101, 49] })), (4, Operand.const (Value.string { data := #[120] }))], type := 26, pos := "l14_draw.go:581", after := #[], guard := none }, { dst := some 57, op := Op.call { callee := Callee.value (Operand.func 50), args := #[Operand.tmp 55, Operand.tmp 56], argTypes := #[45, 26] }, type := 9, pos := "l14_draw.go:581", after := #[{ on := 1, ground := Ground.data }, { on := 2, ground := Ground.data }], guard := none }, { dst := some 58, op := Op.move (Operand.tmp 0), type := 45, pos := "l14_draw.go:581", after := #[], guard := none }, { dst := some 59, op := Op.move (Operand.tmp 1), type := 3, pos := "l14_draw.go:581", after := #[], guard := none }, { dst := some 60, op := Op.binOp BinOp.sub 3 (Operand.tmp 59) (Operand.const (Value.int IntKind.i64 1)) 3, type := 3, pos := "l14_draw.go:581", after := #[{ on := 5, ground := Ground.data }], guard := none }, { dst := some 61, op := Op.call { callee := Callee.value (Operand.func 46), args := #[Operand.tmp 58, Operand.tmp 60], argTypes := #[45, 3] }, type := 28, pos := "l14_draw.go:581", after := #[{ on := 4, ground := Ground.data }, { on := 6, ground := Ground.data }, { on := 3, ground := Ground.chain }], guard := none }, { dst := some 62, op := Op.call { callee := Callee.value (Operand.func 49), args := #[Operand.tmp 54, Operand.tmp 57, Operand.tmp 61, Operand.const (Value.bool true)], argTypes := #[28, 9, 28, 4] }, type := 43, pos := "l14_draw.go:581", after := #[{ on := 0, ground := Ground.data }, { on := 3, ground := Ground.data }, { on := 7, ground := Ground.data }, { on := 7, ground := Ground.chain }], guard := none }, { dst := some 53, op := Op.move (Operand.tmp 62), type := 43, pos := "l14_draw.go:581", after := #[{ on := 8, ground := Ground.data }], guard := none }, { dst := some 63, op := Op.extract (Operand.tmp 53) 0, type := 28, pos := "l14_draw.go:581", after := #[{ on := 9, ground := Ground.data }], guard := none }, { dst := some 64, op := Op.extract (Operand.tmp 53) 1, type := 4, pos := "l14_draw.go:581", after := #[{ on := 9, ground := Ground.data }, { on := 12, ground := Ground.gcOnly Departure.lateStores }], guard := none }, { dst := none, op := Op.store 28 (Operand.tmp 6) (Operand.tmp 63), type := 0, pos := "l14_draw.go:581", after := #[{ on := 10, ground := Ground.data }, { on := 8, ground := Ground.chain }, { on := 0, ground := Ground.phase }, { on := 1, ground := Ground.phase }, { on := 2, ground := Ground.phase }, { on := 3, ground := Ground.phase }, { on := 4, ground := Ground.phase }, { on := 5, ground := Ground.phase }, { on := 6, ground := Ground.phase }, { on := 7, ground := Ground.phase }, { on := 8, ground := Ground.phase }, { on := 9, ground := Ground.phase }, { on := 10, ground := Ground.phase }, { on := 11, ground := Ground.textOnly Departure.lateStores }], guard := none }] true) Q { tmps := (.pointer (some ⟨b, 0, none⟩) :: .int .i64 D :: t2 :: t3 :: t4 :: t5 :: .pointer (some ⟨vb, 0, none⟩) :: t7 :: t8 :: t9 :: t10 :: t11 :: t12 :: t13 :: t14 :: t15 :: t16 :: t17 :: t18 :: t19 :: t20 :: t21 :: t22 :: t23 :: t24 :: t25 :: t26 :: t27 :: t28 :: t29 :: t30 :: t31 :: t32 :: t33 :: t34 :: t35 :: t36 :: t37 :: t38 :: t39 :: t40 :: t41 :: t42 :: t43 :: t44 :: t45 :: t46 :: t47 :: t48 :: t49 :: t50 :: t51 :: t52 :: t53 :: t54 :: t55 :: t56 :: t57 :: t58 :: t59 :: t60 :: t61 :: t62 :: t63 :: t64 :: t65 :: []).toArray, defers := [] } W := by
  have hvl := World.block_lt_of_cell? W _ (hv 0 _ rfl).1
  have hbl := hR.lt
  have HO : Hid (∀ w', Otb b W w' → Row w' vb (six h0 av F.len c)) := fun w' h => hv.otb h hvb
  have HV : Hid (∀ w', Otb b W w' → ValS B0 L M w' h0 av c F) := fun w' h => hval.otr (h.otr none) hbB (fun g hg => by cases hg)
  have HR : Hid (Rd w0 B b a len cap p W.drew) := hR.below ((Below.refl _ _).drew)
  have hO := (Otb.refl b W).drew
  have HL : Hid (F.len = h0.ns.length) := hl
  have HDD : Hid (D = (d : Int) + 1) := hD
  clear hv hR hl hD
  refine wp_region_held_drew (S := fun _ => True) (by kernel_rfl) trivial (fun _ => ?_)
  generalize W.drew = Wd at *
  have hSw : (fun _ : World => True) Wd := trivial
  refine wpAnyH_take (i := 1) (v := .pointer (some ⟨b, 0, none⟩)) rfl (by kernel_rfl) (by kernel_rfl) (by kernel_rfl) (fun _ _ _ h => hp _ _ _ _ _ h) (Or.inl ⟨by rfl, ?_⟩) (by assumption) ?_
  · intro w hSw
    (try dsimp only at hSw)
    go_simp
  (try simp only [Act.put, List.getElem_toArray, List.getElem_cons_zero, List.getElem_cons_succ, List.setIfInBounds_toArray, List.set_cons_zero, List.set_cons_succ])
  refine wpAnyH_take (i := 4) (v := .pointer (some ⟨b, 0, none⟩)) rfl (by kernel_rfl) (by kernel_rfl) (by kernel_rfl) (fun _ _ _ h => hp _ _ _ _ _ h) (Or.inl ⟨by rfl, ?_⟩) (by assumption) ?_
  · intro w hSw
    (try dsimp only at hSw)
    go_simp
  (try simp only [Act.put, List.getElem_toArray, List.getElem_cons_zero, List.getElem_cons_succ, List.setIfInBounds_toArray, List.set_cons_zero, List.set_cons_succ])
  refine wpAnyH_take (i := 5) (v := .int .i64 D) rfl (by kernel_rfl) (by kernel_rfl) (by kernel_rfl) (fun _ _ _ h => hp _ _ _ _ _ h) (Or.inl ⟨by rfl, ?_⟩) (by assumption) ?_
  · intro w hSw
    (try dsimp only at hSw)
    go_simp
  (try simp only [Act.put, List.getElem_toArray, List.getElem_cons_zero, List.getElem_cons_succ, List.setIfInBounds_toArray, List.set_cons_zero, List.set_cons_succ])
  refine wpAnyH_take (i := 6) (v := .int .i64 (d : Nat)) rfl (by kernel_rfl) (by kernel_rfl) (by kernel_rfl) (fun _ _ _ h => hp _ _ _ _ _ h) (Or.inl ⟨by rfl, ?_⟩) (by assumption) ?_
  · intro w hSw
    (try dsimp only at hSw)
    (go_simp; rw [IntKind.wrap_i64] <;> (have := HDD.out; omega))
  (try simp only [Act.put, List.getElem_toArray, List.getElem_cons_zero, List.getElem_cons_succ, List.setIfInBounds_toArray, List.set_cons_zero, List.set_cons_succ])
  clear hSw
  refine wpAnyH_ready (rs := [0, 2]) (by kernel_rfl) (by simp) ?_
  refine AllReadyH.cons rfl (fun K hK => ?_) (AllReadyH.cons rfl (fun K hK => ?_) AllReadyH.nil)
  · skip
    have hrow := HO.out _ hO
    have l0 := (hrow 0 _ rfl).1
    have l1 := (hrow 1 _ rfl).1
    have l2 := (hrow 2 _ rfl).1
    have l3 := (hrow 3 _ rfl).1
    have l4 := (hrow 4 _ rfl).1
    have l5 := (hrow 5 _ rfl).1
    clear hrow
    go_simp
    refine hK.out _ _ trivial (fun _ => ?_)
    clear hK K l0 l1 l2 l3 l4 l5
    (try simp only [Act.put, List.getElem_toArray, List.getElem_cons_zero, List.getElem_cons_succ, List.setIfInBounds_toArray, List.set_cons_zero, List.set_cons_succ])
    refine wpAnyH_ready (rs := [2]) (by kernel_rfl) (by simp) ?_
    refine AllReadyH.cons rfl (fun K hK => ?_) AllReadyH.nil
    go_simp
    have hO2 := hO.alloc (.cells #[.string ⟨#[97]⟩, .string ⟨#[98]⟩, .string ⟨#[99]⟩, .string ⟨#[108, 111, 110, 103, 95, 110, 97, 109, 101, 49]⟩, .string ⟨#[120]⟩] 9)
    have hR2 := HR.out.below ((Below.refl _ Wd).alloc (Nat.le_refl _) (.cells #[.string ⟨#[97]⟩, .string ⟨#[98]⟩, .string ⟨#[99]⟩, .string ⟨#[108, 111, 110, 103, 95, 110, 97, 109, 101, 49]⟩, .string ⟨#[120]⟩] 9))
    have hel : ∀ i, i < 5 → (Wd.alloc (.cells #[.string ⟨#[97]⟩, .string ⟨#[98]⟩, .string ⟨#[99]⟩, .string ⟨#[108, 111, 110, 103, 95, 110, 97, 109, 101, 49]⟩, .string ⟨#[120]⟩] 9)).cell? ⟨Wd.heap.size, i, none⟩ = some (.string (drawnFields.getD i default)) := by
      intro i hi
      have : i = 0 ∨ i = 1 ∨ i = 2 ∨ i = 3 ∨ i = 4 := by omega
      rcases this with rfl | rfl | rfl | rfl | rfl <;> simp [drawnFields]
    have hnb : ¬ Wd.heap.size = b := by have := hO.1; omega
    refine hK.out _ _ trivial (fun _ => ?_)
    clear hK K hO
    obtain ⟨g1, hg1⟩ : ∃ g, Wd.heap.size = g := ⟨_, rfl⟩
    rw [hg1] at hel hnb ⊢
    generalize Wd.alloc (.cells #[.string ⟨#[97]⟩, .string ⟨#[98]⟩, .string ⟨#[99]⟩, .string ⟨#[108, 111, 110, 103, 95, 110, 97, 109, 101, 49]⟩, .string ⟨#[120]⟩] 9) = w1 at *
    clear hg1
    have hO := hO2
    clear hO2 HR
    (try simp only [Act.put, List.getElem_toArray, List.getElem_cons_zero, List.getElem_cons_succ, List.setIfInBounds_toArray, List.set_cons_zero, List.set_cons_succ])
    refine wpAnyH_ready (rs := [3]) (by kernel_rfl) (by simp) ?_
    refine AllReadyH.cons rfl (fun K hK => ?_) AllReadyH.nil
    go_simp
    refine (of_any hR2 (by omega) g1 5 drawnFields hnb rfl (by omega) (by omega) hel).mono ?_
    rintro r w2 ⟨⟨s, rfl, hsm⟩, hst⟩
    have hs10 := drawnFields_size s hsm
    have hO2 := hO.stepped hst
    have hR3 := hR2.step hst
    clear hsm hst hel hnb hR2 hO
    have hO := hO2
    clear hO2
    go_wp2_with fail
    refine hK.out _ _ trivial (fun _ => ?_)
    clear hK K
    refine wpAnyH_ready (rs := [7]) (by kernel_rfl) (by simp) ?_
    refine AllReadyH.cons rfl (fun K hK => ?_) AllReadyH.nil
    have hH := H (p + 1) w2 hR3 hq
    go_simp
    refine hH.mono ?_
    rintro r w3 ⟨h1, G, ag, cg, p1, rfl, hg, hp1, hR4, hO1⟩
    have hO2 := hO.trans hO1
    have hB3 : B0 ≤ w2.heap.size := by have := hO.1; omega
    go_wp2_with fail
    refine hK.out _ _ trivial (fun _ => ?_)
    clear hK K hH hO hR3 hO1
    have hO := hO2
    clear hO2
    refine wpAnyH_ready (rs := [8]) (by kernel_rfl) (by simp) ?_
    refine AllReadyH.cons rfl (fun K hK => ?_) AllReadyH.nil
    have hv3 := HV.out _ hO
    obtain ⟨i1, i2, i3⟩ := hv3.in
    have hL3 := hv3.1.2.1
    go_simp
    refine (l7Into_any h0 av c F s h1 ag cg G true w3 i1 i2 i3 HL.out (by omega)).mono ?_
    rintro r w4 ⟨hI, hb4⟩
    obtain ⟨h', a', c', F', ok', rfl, hv4, hl4⟩ := hv3.into HL.out hg (by omega) hB3 hs10 (by have := hO.1; omega) hI hb4
    have hO4 := hO.below hb4
    have hR5 := hR4.below hb4
    have hrow := HO.out _ hO4
    have HL4 : Hid (F'.len = h'.ns.length) := hl4
    clear hI hb4 hO hv3 i1 i2 i3 hg hR4 hl4
    go_wp2_with fail
    refine hK.out _ _ trivial (fun _ => ?_)
    clear hK K
    have hSw : (fun _ : World => True) w4 := trivial
    refine wpAnyH_take (i := 9) (v := .tuple #[valV h' a' F'.len c', .bool ok']) rfl (by kernel_rfl) (by kernel_rfl) (by kernel_rfl) (fun _ _ _ h => hp _ _ _ _ _ h) (Or.inl ⟨by rfl, ?_⟩) (by assumption) ?_
    · intro w hSw
      (try dsimp only at hSw)
      go_simp
    (try simp only [Act.put, List.getElem_toArray, List.getElem_cons_zero, List.getElem_cons_succ, List.setIfInBounds_toArray, List.set_cons_zero, List.set_cons_succ])
    refine wpAnyH_take (i := 10) (v := valV h' a' F'.len c') rfl (by kernel_rfl) (by kernel_rfl) (by kernel_rfl) (fun _ _ _ h => hp _ _ _ _ _ h) (Or.inl ⟨by rfl, ?_⟩) (by assumption) ?_
    · intro w hSw
      (try dsimp only at hSw)
      go_simp
    (try simp only [Act.put, List.getElem_toArray, List.getElem_cons_zero, List.getElem_cons_succ, List.setIfInBounds_toArray, List.set_cons_zero, List.set_cons_succ])
    refine wpAnyH_take (i := 11) (v := .bool ok') rfl (by kernel_rfl) (by kernel_rfl) (by kernel_rfl) (fun _ _ _ h => hp _ _ _ _ _ h) (Or.inl ⟨by rfl, ?_⟩) (by assumption) ?_
    · intro w hSw
      (try dsimp only at hSw)
      go_simp
    (try simp only [Act.put, List.getElem_toArray, List.getElem_cons_zero, List.getElem_cons_succ, List.setIfInBounds_toArray, List.set_cons_zero, List.set_cons_succ])
    obtain ⟨l0, f0⟩ := hrow 0 _ rfl
    obtain ⟨l1, f1⟩ := hrow 1 _ rfl
    obtain ⟨l2, f2⟩ := hrow 2 _ rfl
    obtain ⟨l3, f3⟩ := hrow 3 _ rfl
    obtain ⟨l4, f4⟩ := hrow 4 _ rfl
    obtain ⟨l5, f5⟩ := hrow 5 _ rfl
    clear hrow
    refine wpAnyH_ready (rs := [12]) (by kernel_rfl) (by simp) ?_
    refine AllReadyH.cons rfl (fun K hK => ?_) AllReadyH.nil
    go_simp
    refine hK.out _ _ trivial (fun _ => ?_)
    refine wpAnyH_done (by kernel_rfl) ?_ _
    exact h _ _ _ _ _ _ _ _ _ _ _ _ _ _ _ _ _ _ hO4 hR5 hp1 hv4 HL4.out
  · skip
    go_simp
    have hO2 := hO.alloc (.cells #[.string ⟨#[97]⟩, .string ⟨#[98]⟩, .string ⟨#[99]⟩, .string ⟨#[108, 111, 110, 103, 95, 110, 97, 109, 101, 49]⟩, .string ⟨#[120]⟩] 9)
    have hR2 := HR.out.below ((Below.refl _ Wd).alloc (Nat.le_refl _) (.cells #[.string ⟨#[97]⟩, .string ⟨#[98]⟩, .string ⟨#[99]⟩, .string ⟨#[108, 111, 110, 103, 95, 110, 97, 109, 101, 49]⟩, .string ⟨#[120]⟩] 9))
    have hel : ∀ i, i < 5 → (Wd.alloc (.cells #[.string ⟨#[97]⟩, .string ⟨#[98]⟩, .string ⟨#[99]⟩, .string ⟨#[108, 111, 110, 103, 95, 110, 97, 109, 101, 49]⟩, .string ⟨#[120]⟩] 9)).cell? ⟨Wd.heap.size, i, none⟩ = some (.string (drawnFields.getD i default)) := by
      intro i hi
      have : i = 0 ∨ i = 1 ∨ i = 2 ∨ i = 3 ∨ i = 4 := by omega
      rcases this with rfl | rfl | rfl | rfl | rfl <;> simp [drawnFields]
    have hnb : ¬ Wd.heap.size = b := by have := hO.1; omega
    refine hK.out _ _ trivial (fun _ => ?_)
    clear hK K hO
    obtain ⟨g1, hg1⟩ : ∃ g, Wd.heap.size = g := ⟨_, rfl⟩
    rw [hg1] at hel hnb ⊢
    generalize Wd.alloc (.cells #[.string ⟨#[97]⟩, .string ⟨#[98]⟩, .string ⟨#[99]⟩, .string ⟨#[108, 111, 110, 103, 95, 110, 97, 109, 101, 49]⟩, .string ⟨#[120]⟩] 9) = w1 at *
    clear hg1
    have hO := hO2
    clear hO2 HR
    (try simp only [Act.put, List.getElem_toArray, List.getElem_cons_zero, List.getElem_cons_succ, List.setIfInBounds_toArray, List.set_cons_zero, List.set_cons_succ])
    refine wpAnyH_ready (rs := [0, 3]) (by kernel_rfl) (by simp) ?_
    refine AllReadyH.cons rfl (fun K hK => ?_) (AllReadyH.cons rfl (fun K hK => ?_) AllReadyH.nil)
    · skip
      have hrow := HO.out _ hO
      have l0 := (hrow 0 _ rfl).1
      have l1 := (hrow 1 _ rfl).1
      have l2 := (hrow 2 _ rfl).1
      have l3 := (hrow 3 _ rfl).1
      have l4 := (hrow 4 _ rfl).1
      have l5 := (hrow 5 _ rfl).1
      clear hrow
      go_simp
      refine hK.out _ _ trivial (fun _ => ?_)
      clear hK K l0 l1 l2 l3 l4 l5
      (try simp only [Act.put, List.getElem_toArray, List.getElem_cons_zero, List.getElem_cons_succ, List.setIfInBounds_toArray, List.set_cons_zero, List.set_cons_succ])
      refine wpAnyH_ready (rs := [3]) (by kernel_rfl) (by simp) ?_
      refine AllReadyH.cons rfl (fun K hK => ?_) AllReadyH.nil
      go_simp
      refine (of_any hR2 (by omega) g1 5 drawnFields hnb rfl (by omega) (by omega) hel).mono ?_
      rintro r w2 ⟨⟨s, rfl, hsm⟩, hst⟩
      have hs10 := drawnFields_size s hsm
      have hO2 := hO.stepped hst
      have hR3 := hR2.step hst
      clear hsm hst hel hnb hR2 hO
      have hO := hO2
      clear hO2
      go_wp2_with fail
      refine hK.out _ _ trivial (fun _ => ?_)
      clear hK K
      refine wpAnyH_ready (rs := [7]) (by kernel_rfl) (by simp) ?_
      refine AllReadyH.cons rfl (fun K hK => ?_) AllReadyH.nil
      have hH := H (p + 1) w2 hR3 hq
      go_simp
      refine hH.mono ?_
      rintro r w3 ⟨h1, G, ag, cg, p1, rfl, hg, hp1, hR4, hO1⟩
      have hO2 := hO.trans hO1
      have hB3 : B0 ≤ w2.heap.size := by have := hO.1; omega
      go_wp2_with fail
      refine hK.out _ _ trivial (fun _ => ?_)
      clear hK K hH hO hR3 hO1
      have hO := hO2
      clear hO2
      refine wpAnyH_ready (rs := [8]) (by kernel_rfl) (by simp) ?_
      refine AllReadyH.cons rfl (fun K hK => ?_) AllReadyH.nil
      have hv3 := HV.out _ hO
      obtain ⟨i1, i2, i3⟩ := hv3.in
      have hL3 := hv3.1.2.1
      go_simp
      refine (l7Into_any h0 av c F s h1 ag cg G true w3 i1 i2 i3 HL.out (by omega)).mono ?_
      rintro r w4 ⟨hI, hb4⟩
      obtain ⟨h', a', c', F', ok', rfl, hv4, hl4⟩ := hv3.into HL.out hg (by omega) hB3 hs10 (by have := hO.1; omega) hI hb4
      have hO4 := hO.below hb4
      have hR5 := hR4.below hb4
      have hrow := HO.out _ hO4
      have HL4 : Hid (F'.len = h'.ns.length) := hl4
      clear hI hb4 hO hv3 i1 i2 i3 hg hR4 hl4
      go_wp2_with fail
      refine hK.out _ _ trivial (fun _ => ?_)
      clear hK K
      have hSw : (fun _ : World => True) w4 := trivial
      refine wpAnyH_take (i := 9) (v := .tuple #[valV h' a' F'.len c', .bool ok']) rfl (by kernel_rfl) (by kernel_rfl) (by kernel_rfl) (fun _ _ _ h => hp _ _ _ _ _ h) (Or.inl ⟨by rfl, ?_⟩) (by assumption) ?_
      · intro w hSw
        (try dsimp only at hSw)
        go_simp
      (try simp only [Act.put, List.getElem_toArray, List.getElem_cons_zero, List.getElem_cons_succ, List.setIfInBounds_toArray, List.set_cons_zero, List.set_cons_succ])
      refine wpAnyH_take (i := 10) (v := valV h' a' F'.len c') rfl (by kernel_rfl) (by kernel_rfl) (by kernel_rfl) (fun _ _ _ h => hp _ _ _ _ _ h) (Or.inl ⟨by rfl, ?_⟩) (by assumption) ?_
      · intro w hSw
        (try dsimp only at hSw)
        go_simp
      (try simp only [Act.put, List.getElem_toArray, List.getElem_cons_zero, List.getElem_cons_succ, List.setIfInBounds_toArray, List.set_cons_zero, List.set_cons_succ])
      refine wpAnyH_take (i := 11) (v := .bool ok') rfl (by kernel_rfl) (by kernel_rfl) (by kernel_rfl) (fun _ _ _ h => hp _ _ _ _ _ h) (Or.inl ⟨by rfl, ?_⟩) (by assumption) ?_
      · intro w hSw
        (try dsimp only at hSw)
        go_simp
      (try simp only [Act.put, List.getElem_toArray, List.getElem_cons_zero, List.getElem_cons_succ, List.setIfInBounds_toArray, List.set_cons_zero, List.set_cons_succ])
      obtain ⟨l0, f0⟩ := hrow 0 _ rfl
      obtain ⟨l1, f1⟩ := hrow 1 _ rfl
      obtain ⟨l2, f2⟩ := hrow 2 _ rfl
      obtain ⟨l3, f3⟩ := hrow 3 _ rfl
      obtain ⟨l4, f4⟩ := hrow 4 _ rfl
      obtain ⟨l5, f5⟩ := hrow 5 _ rfl
      clear hrow
      refine wpAnyH_ready (rs := [12]) (by kernel_rfl) (by simp) ?_
      refine AllReadyH.cons rfl (fun K hK => ?_) AllReadyH.nil
      go_simp
      refine hK.out _ _ trivial (fun _ => ?_)
      refine wpAnyH_done (by kernel_rfl) ?_ _
      exact h _ _ _ _ _ _ _ _ _ _ _ _ _ _ _ _ _ _ hO4 hR5 hp1 hv4 HL4.out
    · skip
      go_simp
      refine (of_any hR2 (by omega) g1 5 drawnFields hnb rfl (by omega) (by omega) hel).mono ?_
      rintro r w2 ⟨⟨s, rfl, hsm⟩, hst⟩
      have hs10 := drawnFields_size s hsm
      have hO2 := hO.stepped hst
      have hR3 := hR2.step hst
      clear hsm hst hel hnb hR2 hO
      have hO := hO2
      clear hO2
      go_wp2_with fail
      refine hK.out _ _ trivial (fun _ => ?_)
      clear hK K
      refine wpAnyH_ready (rs := [0, 7]) (by kernel_rfl) (by simp) ?_
      refine AllReadyH.cons rfl (fun K hK => ?_) (AllReadyH.cons rfl (fun K hK => ?_) AllReadyH.nil)
      · skip
        have hrow := HO.out _ hO
        have l0 := (hrow 0 _ rfl).1
        have l1 := (hrow 1 _ rfl).1
        have l2 := (hrow 2 _ rfl).1
        have l3 := (hrow 3 _ rfl).1
        have l4 := (hrow 4 _ rfl).1
        have l5 := (hrow 5 _ rfl).1
        clear hrow
        go_simp
        refine hK.out _ _ trivial (fun _ => ?_)
        clear hK K l0 l1 l2 l3 l4 l5
        (try simp only [Act.put, List.getElem_toArray, List.getElem_cons_zero, List.getElem_cons_succ, List.setIfInBounds_toArray, List.set_cons_zero, List.set_cons_succ])
        refine wpAnyH_ready (rs := [7]) (by kernel_rfl) (by simp) ?_
        refine AllReadyH.cons rfl (fun K hK => ?_) AllReadyH.nil
        have hH := H (p + 1) w2 hR3 hq
        go_simp
        refine hH.mono ?_
        rintro r w3 ⟨h1, G, ag, cg, p1, rfl, hg, hp1, hR4, hO1⟩
        have hO2 := hO.trans hO1
        have hB3 : B0 ≤ w2.heap.size := by have := hO.1; omega
        go_wp2_with fail
        refine hK.out _ _ trivial (fun _ => ?_)
        clear hK K hH hO hR3 hO1
        have hO := hO2
        clear hO2
        refine wpAnyH_ready (rs := [8]) (by kernel_rfl) (by simp) ?_
        refine AllReadyH.cons rfl (fun K hK => ?_) AllReadyH.nil
        have hv3 := HV.out _ hO
        obtain ⟨i1, i2, i3⟩ := hv3.in
        have hL3 := hv3.1.2.1
        go_simp
        refine (l7Into_any h0 av c F s h1 ag cg G true w3 i1 i2 i3 HL.out (by omega)).mono ?_
        rintro r w4 ⟨hI, hb4⟩
        obtain ⟨h', a', c', F', ok', rfl, hv4, hl4⟩ := hv3.into HL.out hg (by omega) hB3 hs10 (by have := hO.1; omega) hI hb4
        have hO4 := hO.below hb4
        have hR5 := hR4.below hb4
        have hrow := HO.out _ hO4
        have HL4 : Hid (F'.len = h'.ns.length) := hl4
        clear hI hb4 hO hv3 i1 i2 i3 hg hR4 hl4
        go_wp2_with fail
        refine hK.out _ _ trivial (fun _ => ?_)
        clear hK K
        have hSw : (fun _ : World => True) w4 := trivial
        refine wpAnyH_take (i := 9) (v := .tuple #[valV h' a' F'.len c', .bool ok']) rfl (by kernel_rfl) (by kernel_rfl) (by kernel_rfl) (fun _ _ _ h => hp _ _ _ _ _ h) (Or.inl ⟨by rfl, ?_⟩) (by assumption) ?_
        · intro w hSw
          (try dsimp only at hSw)
          go_simp
        (try simp only [Act.put, List.getElem_toArray, List.getElem_cons_zero, List.getElem_cons_succ, List.setIfInBounds_toArray, List.set_cons_zero, List.set_cons_succ])
        refine wpAnyH_take (i := 10) (v := valV h' a' F'.len c') rfl (by kernel_rfl) (by kernel_rfl) (by kernel_rfl) (fun _ _ _ h => hp _ _ _ _ _ h) (Or.inl ⟨by rfl, ?_⟩) (by assumption) ?_
        · intro w hSw
          (try dsimp only at hSw)
          go_simp
        (try simp only [Act.put, List.getElem_toArray, List.getElem_cons_zero, List.getElem_cons_succ, List.setIfInBounds_toArray, List.set_cons_zero, List.set_cons_succ])
        refine wpAnyH_take (i := 11) (v := .bool ok') rfl (by kernel_rfl) (by kernel_rfl) (by kernel_rfl) (fun _ _ _ h => hp _ _ _ _ _ h) (Or.inl ⟨by rfl, ?_⟩) (by assumption) ?_
        · intro w hSw
          (try dsimp only at hSw)
          go_simp
        (try simp only [Act.put, List.getElem_toArray, List.getElem_cons_zero, List.getElem_cons_succ, List.setIfInBounds_toArray, List.set_cons_zero, List.set_cons_succ])
        obtain ⟨l0, f0⟩ := hrow 0 _ rfl
        obtain ⟨l1, f1⟩ := hrow 1 _ rfl
        obtain ⟨l2, f2⟩ := hrow 2 _ rfl
        obtain ⟨l3, f3⟩ := hrow 3 _ rfl
        obtain ⟨l4, f4⟩ := hrow 4 _ rfl
        obtain ⟨l5, f5⟩ := hrow 5 _ rfl
        clear hrow
        refine wpAnyH_ready (rs := [12]) (by kernel_rfl) (by simp) ?_
        refine AllReadyH.cons rfl (fun K hK => ?_) AllReadyH.nil
        go_simp
        refine hK.out _ _ trivial (fun _ => ?_)
        refine wpAnyH_done (by kernel_rfl) ?_ _
        exact h _ _ _ _ _ _ _ _ _ _ _ _ _ _ _ _ _ _ hO4 hR5 hp1 hv4 HL4.out
      · skip
        have hH := H (p + 1) w2 hR3 hq
        go_simp
        refine hH.mono ?_
        rintro r w3 ⟨h1, G, ag, cg, p1, rfl, hg, hp1, hR4, hO1⟩
        have hO2 := hO.trans hO1
        have hB3 : B0 ≤ w2.heap.size := by have := hO.1; omega
        go_wp2_with fail
        refine hK.out _ _ trivial (fun _ => ?_)
        clear hK K hH hO hR3 hO1
        have hO := hO2
        clear hO2
        refine wpAnyH_ready (rs := [0]) (by kernel_rfl) (by simp) ?_
        refine AllReadyH.cons rfl (fun K hK => ?_) AllReadyH.nil
        have hrow := HO.out _ hO
        have l0 := (hrow 0 _ rfl).1
        have l1 := (hrow 1 _ rfl).1
        have l2 := (hrow 2 _ rfl).1
        have l3 := (hrow 3 _ rfl).1
        have l4 := (hrow 4 _ rfl).1
        have l5 := (hrow 5 _ rfl).1
        clear hrow
        go_simp
        refine hK.out _ _ trivial (fun _ => ?_)
        clear hK K l0 l1 l2 l3 l4 l5
        (try simp only [Act.put, List.getElem_toArray, List.getElem_cons_zero, List.getElem_cons_succ, List.setIfInBounds_toArray, List.set_cons_zero, List.set_cons_succ])
        refine wpAnyH_ready (rs := [8]) (by kernel_rfl) (by simp) ?_
        refine AllReadyH.cons rfl (fun K hK => ?_) AllReadyH.nil
        have hv3 := HV.out _ hO
        obtain ⟨i1, i2, i3⟩ := hv3.in
        have hL3 := hv3.1.2.1
        go_simp
        refine (l7Into_any h0 av c F s h1 ag cg G true w3 i1 i2 i3 HL.out (by omega)).mono ?_
        rintro r w4 ⟨hI, hb4⟩
        obtain ⟨h', a', c', F', ok', rfl, hv4, hl4⟩ := hv3.into HL.out hg (by omega) hB3 hs10 (by have := hO.1; omega) hI hb4
        have hO4 := hO.below hb4
        have hR5 := hR4.below hb4
        have hrow := HO.out _ hO4
        have HL4 : Hid (F'.len = h'.ns.length) := hl4
        clear hI hb4 hO hv3 i1 i2 i3 hg hR4 hl4
        go_wp2_with fail
        refine hK.out _ _ trivial (fun _ => ?_)
        clear hK K
        have hSw : (fun _ : World => True) w4 := trivial
        refine wpAnyH_take (i := 9) (v := .tuple #[valV h' a' F'.len c', .bool ok']) rfl (by kernel_rfl) (by kernel_rfl) (by kernel_rfl) (fun _ _ _ h => hp _ _ _ _ _ h) (Or.inl ⟨by rfl, ?_⟩) (by assumption) ?_
        · intro w hSw
          (try dsimp only at hSw)
          go_simp
        (try simp only [Act.put, List.getElem_toArray, List.getElem_cons_zero, List.getElem_cons_succ, List.setIfInBounds_toArray, List.set_cons_zero, List.set_cons_succ])
        refine wpAnyH_take (i := 10) (v := valV h' a' F'.len c') rfl (by kernel_rfl) (by kernel_rfl) (by kernel_rfl) (fun _ _ _ h => hp _ _ _ _ _ h) (Or.inl ⟨by rfl, ?_⟩) (by assumption) ?_
        · intro w hSw
          (try dsimp only at hSw)
          go_simp
        (try simp only [Act.put, List.getElem_toArray, List.getElem_cons_zero, List.getElem_cons_succ, List.setIfInBounds_toArray, List.set_cons_zero, List.set_cons_succ])
        refine wpAnyH_take (i := 11) (v := .bool ok') rfl (by kernel_rfl) (by kernel_rfl) (by kernel_rfl) (fun _ _ _ h => hp _ _ _ _ _ h) (Or.inl ⟨by rfl, ?_⟩) (by assumption) ?_
        · intro w hSw
          (try dsimp only at hSw)
          go_simp
        (try simp only [Act.put, List.getElem_toArray, List.getElem_cons_zero, List.getElem_cons_succ, List.setIfInBounds_toArray, List.set_cons_zero, List.set_cons_succ])
        obtain ⟨l0, f0⟩ := hrow 0 _ rfl
        obtain ⟨l1, f1⟩ := hrow 1 _ rfl
        obtain ⟨l2, f2⟩ := hrow 2 _ rfl
        obtain ⟨l3, f3⟩ := hrow 3 _ rfl
        obtain ⟨l4, f4⟩ := hrow 4 _ rfl
        obtain ⟨l5, f5⟩ := hrow 5 _ rfl
        clear hrow
        refine wpAnyH_ready (rs := [12]) (by kernel_rfl) (by simp) ?_
        refine AllReadyH.cons rfl (fun K hK => ?_) AllReadyH.nil
        go_simp
        refine hK.out _ _ trivial (fun _ => ?_)
        refine wpAnyH_done (by kernel_rfl) ?_ _
        exact h _ _ _ _ _ _ _ _ _ _ _ _ _ _ _ _ _ _ hO4 hR5 hp1 hv4 HL4.out
end Go.Proofs.Ytfgchdnpbbgmjaa
/- Drawn values: an item more behind an array; what stays when another block is written. -/
namespace Go.Proofs.Ytfgchdnpbbgmjaa
open Go.RowKit
theorem Vo.Blk.and {P Q : Nat → Prop} : ∀ {F : Vo}, F.Blk P → F.Blk Q → F.Blk (fun x => P x ∧ Q x) := by
  intro F
  induction F with
  | nil => exact fun _ _ => trivial
  | cons h a c kids next ih1 ih2 =>
    rintro ⟨p1, p2, p3, p4⟩ ⟨q1, q2, q3, q4⟩
    refine ⟨?_, ?_, ih1 p3 q3, ih2 p4 q4⟩
    · rcases p1 with p1 | ⟨b, o, e1, e2⟩
      · exact .inl p1
      · rcases q1 with q1 | ⟨b', o', e3, e4⟩
        · exact .inl q1
        · rw [e1] at e3; cases e3; exact .inr ⟨b, o, e1, e2, e4⟩
    · rcases p2 with p2 | ⟨b, o, e1, e2⟩
      · exact .inl p2
      · rcases q2 with q2 | ⟨b', o', e3, e4⟩
        · exact .inl q2
        · rw [e1] at e3; cases e3; exact .inr ⟨b, o, e1, e2, e4⟩
theorem Otr.setCell (b : Nat) {j o : Nat} (w : World) (u : Value) : Otr b (some j) w (w.setCell ⟨j, o, none⟩ u) :=
  ⟨by simp [World.setCell], fun x _ _ h3 => heap_setCell_other _ _ _ _ (fun e => h3 (by rw [e]))⟩
theorem Otr.trans {b : Nat} {r : Option Nat} {W w' w'' : World} (h : Otr b r W w') (k : Otr b r w' w'') : Otr b r W w'' :=
  ⟨Nat.le_trans h.1 k.1, fun x h1 h2 h3 => (k.2 x (Nat.lt_of_lt_of_le h1 h.1) h2 h3).trans (h.2 x h1 h2 h3)⟩
theorem Otr.put6 (b : Nat) {j o : Nat} (w : World) (v0 v1 v2 v3 v4 v5 : Value) : Otr b (some j) w (put6 w j o v0 v1 v2 v3 v4 v5) :=
  (((((Otr.setCell b w v0).trans (Otr.setCell b _ v1)).trans (Otr.setCell b _ v2)).trans (Otr.setCell b _ v3)).trans (Otr.setCell b _ v4)).trans (Otr.setCell b _ v5)
theorem ValS.blank {B0 L M : Nat} {w : World} {k m e : Int} {t : ByteArray} (ht : t.size ≤ 7) : ValS B0 L M w ⟨k, m, e, t, none, 0, []⟩ none 0 .nil :=
  ⟨⟨⟨Nat.zero_le _, Nat.zero_le _, Nat.zero_le _, ⟨trivial, fun _ => Nat.zero_le _, trivial⟩⟩, Nat.zero_le _, ht, fun s hs => by cases hs⟩, World.ownsRow_nil _ _ _ _, World.ownsRow_nil _ _ _ _, ⟨trivial, trivial⟩, trivial⟩
theorem ValS.more {B0 L M b d vb o : Nat} {w ws : World} {h h1 : Hd} {a a' ag : Option Addr} {c c' cg : Nat} {F G : Vo} {u : Value} (hv : ValS B0 L M w h a c F) (hbB : b < B0) (hBw : B0 ≤ w.heap.size) (hvb : vb < B0)
    (hn : h.na = none ∧ h.nc = 0 ∧ h.ns = []) (hk6 : ¬ h.k = 6) (hO : Otr b (blkOf a) w ws) (hg : ValS w.heap.size 3 d ws h1 ag cg G) (hown : ws.ownsRow B0 28 6 (.slice a' (F.len + 1) c') (F.len + 1) (F.app (oneV h1 ag cg G)).cells)
    (hob : blkOf a' = blkOf a ∨ ∃ g, blkOf a' = some g ∧ w.heap.size ≤ g ∧ (oneV h1 ag cg G).Blk (fun x => x < g)) :
    ValS B0 (L + 1) (M + d + 1) (ws.setCell ⟨vb, o, none⟩ u) h a' c' (F.app (oneV h1 ag cg G)) := by
  obtain ⟨⟨⟨l1, l2, l3, l4⟩, l5, l6, l7⟩, h6, _, hk, hB⟩ := hv
  have hS := Otr.setCell b (j := vb) (o := o) ws u
  have hg2 := hg.otr hS (by omega) (fun g hg => by cases hg; omega)
  have gwt := oneV_wt hg (by omega)
  have gfew := oneV_few hg (by omega)
  have gs : (oneV h1 ag cg G).size = G.size + 1 := rfl
  have gM := hg.1.1.2.1
  have el : (F.app (oneV h1 ag cg G)).len = F.len + 1 := Vo.app_len _ _
  have es := Vo.app_size F (oneV h1 ag cg G)
  have ew := Vo.app_wt F (oneV h1 ag cg G)
  obtain ⟨n1, n2, n3⟩ := hn
  have hsz := hS.1
  have hz := hO.1
  refine ⟨⟨⟨by omega, by omega, by omega, ⟨Vo.app_few l4.1 gfew, fun e => absurd e hk6, Vo.app_nob l4.2.2 (oneV_nob hg)⟩⟩, by omega, l6, l7⟩, ?_, ?_, ?_, ?_⟩
  · rw [el]
    exact own_set hown (fun g hg => by have := (hown.lt g hg).1; omega) u
  · rw [n1, n2, n3]; exact World.ownsRow_nil _ _ _ _
  · have hb3 : F.Blk (fun x => ¬ x = b ∧ some x ≠ some vb) := hB.mono fun x hx => ⟨by omega, fun e => by have e' : x = vb := Option.some.inj e; omega⟩
    have hb4 : F.Blk (fun x => ¬ x = b ∧ some x ≠ blkOf a) := hB.mono fun x hx => ⟨by omega, hx.2.1⟩
    exact ⟨Vo.app_kin (hS.kin hb3 (hO.kin hb4 hk.1)) hg2.one, Vo.app_cl (hS.cl hb3 (hO.cl hb4 hk.2)) hg2.oneCl⟩
  · have hna : ∀ x : Nat, some x ≠ blkOf h.na := fun x e => by rw [n1] at e; cases e
    have p1 : F.Blk (fun x => (B0 ≤ x ∧ x < (ws.setCell ⟨vb, o, none⟩ u).heap.size) ∧ some x ≠ blkOf a' ∧ some x ≠ blkOf h.na) := by
      refine hB.mono fun x hx => ⟨⟨hx.1.1, by omega⟩, fun e => ?_, hna x⟩
      rcases hob with hob | ⟨g, hob, hge, _⟩
      · exact hx.2.1 (e.trans hob)
      · rw [hob] at e; cases e; omega
    refine Vo.app_blk p1 ?_
    · rcases hob with hob | ⟨g, hob, hge, hlt⟩
      · refine hg.blk.mono fun x hx => ⟨⟨by omega, by omega⟩, fun e => ?_, hna x⟩
        rw [hob] at e
        have := (h6.lt x (by rw [ownBlock_blkOf]; exact e.symm)).2
        omega
      · refine (hg.blk.and hlt).mono fun x hx => ⟨⟨by omega, by omega⟩, fun e => ?_, hna x⟩
        rw [hob] at e
        cases e
        exact Nat.lt_irrefl _ hx.2
end Go.Proofs.Ytfgchdnpbbgmjaa
