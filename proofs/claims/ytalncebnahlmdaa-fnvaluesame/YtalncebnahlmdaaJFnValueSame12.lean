/- My own texts, joined: Uh Ui Un. -/
import Derived.Test.YtalncebnahlmdaaJFnValueSame11
/- Drawn values: a value that was drawn, put into an object that was drawn; l14Value's region that does so. -/
namespace Go.Proofs.Ytalncebnahlmdaa
open Go.RowKit
theorem insV_wt (X F : Vo) (k : Nat) : (insV X F k).wt = F.wt + X.wt := by
  have := congrArg Vo.wt (Vo.take_drop F k)
  rw [Vo.app_wt] at this
  unfold insV; rw [Vo.app_wt, Vo.app_wt]; omega
theorem insN_length (s : ByteArray) (ss : List ByteArray) : (insN s ss).length = ss.length + 1 := by
  have := plc_le s ss
  unfold insN
  rw [List.length_append, List.length_cons, List.length_take, List.length_drop]; omega
theorem insN_mem {s : ByteArray} {ss : List ByteArray} {x : ByteArray} (h : x ∈ insN s ss) : x = s ∨ x ∈ ss := by
  unfold insN at h
  rcases List.mem_append.1 h with h | h
  · exact .inr (List.mem_of_mem_take h)
  · rcases List.mem_cons.1 h with h | h
    · exact .inl h
    · exact .inr (List.mem_of_mem_drop h)
theorem ValS.into {B0 B1 L Lg M d : Nat} {w w' : World} {h h1 : Hd} {a ag : Option Addr} {c cg : Nat} {F G : Vo} {s : ByteArray} {ok : Bool} {r : Ending} (hv : ValS B0 L M w h a c F) (hl : F.len = h.ns.length) (hg : ValS B1 Lg d w h1 ag cg G) (hLg : Lg ≤ 4) (hB : B0 ≤ B1) (hs : s.size ≤ 10)
    (hB0 : B0 ≤ w.heap.size) (hI : IntoC h a c F s (oneV h1 ag cg G) ok w w' r) (hb : Below w.heap.size w w') :
    ∃ h' a' c' F' ok', r = .returned (.tuple #[valV h' a' F'.len c', .bool ok']) ∧ ValS B0 (L + 1) (M + d + 1) w' h' a' c' F' ∧ F'.len = h'.ns.length := by
  rcases hI with ⟨_, rfl⟩ | ⟨_, na, nc, a', c', rfl, hn, hf⟩
  · exact ⟨h, a, c, F, false, rfl, (hv.below hb).mono (Nat.le_refl _) (by omega) (by omega), hl⟩
  · obtain ⟨⟨⟨l1, l2, l3, l4⟩, l5, l6, l7⟩, h6, h1', hk, hB1⟩ := hv
    have hg1 := (hg.below hb)
    have gone := hg1.one
    have gblk := hg.blk
    have gwt := oneV_wt hg hLg
    have gfew := oneV_few hg hLg
    have gs : (oneV h1 ag cg G).size = G.size + 1 := rfl
    have gM := hg.1.1.2.1
    have hlen : (insV (oneV h1 ag cg G) F (plc s h.ns)).len = F.len + 1 := insV_len _ _ _
    have hsize := insV_size (oneV h1 ag cg G) F (plc s h.ns)
    have hwt := insV_wt (oneV h1 ag cg G) F (plc s h.ns)
    have hfar : ∀ {x : Nat} {b' : Option Addr} {n' c'' : Nat} {e : TypeId} {size : Nat} {xs : List Value}, w'.ownsRow w.heap.size e size (.slice b' n' c'') n' xs → x < w.heap.size → some x ≠ blkOf b' := fun hr hx e => by
      have := (hr.lt _ (by rw [ownBlock_blkOf]; exact e.symm)).1
      omega
    refine ⟨hdObj na nc (insN s h.ns), a', c', insV (oneV h1 ag cg G) F (plc s h.ns), ok, by rw [hlen], ⟨⟨⟨by omega, by omega, by omega, ⟨insV_few gfew l4.1, fun _ => (by rw [hlen]; show F.len + 1 ≤ (insN s h.ns).length; rw [insN_length]; omega), insV_nob (oneV_nob hg) l4.2.2⟩⟩, ?_, ?_, ?_⟩, ?_, ?_, ?_, ?_⟩, ?_⟩
    · show (insN s h.ns).length ≤ L + 1
      rw [insN_length]; omega
    · show (ByteArray.mk #[]).size ≤ 7
      exact Nat.zero_le _
    · intro x hx
      rcases insN_mem hx with rfl | hx
      · exact hs
      · exact l7 x hx
    · rw [hlen]; exact own_mono hf hB0
    · exact own_mono hn hB0
    · exact ⟨insV_kin gone (Vo.kin_grow hb hk.1), insV_cl hg1.oneCl (hk.2.below hb)⟩
    · refine insV_blk (gblk.mono fun x hx => ⟨⟨by omega, Nat.lt_of_lt_of_le hx.2 hb.size⟩, hfar hf hx.2, hfar hn hx.2⟩) (hB1.mono fun x hx => ⟨⟨hx.1.1, Nat.lt_of_lt_of_le hx.1.2 hb.size⟩, hfar hf hx.1.2, hfar hn hx.1.2⟩)
    · rw [hlen, hl]; exact (insN_length s h.ns).symm
/-- the names that a drawn object has -/
def drawnFields : List ByteArray := [⟨#[97]⟩, ⟨#[98]⟩, ⟨#[99]⟩, ⟨#[108, 111, 110, 103, 95, 110, 97, 109, 101, 49]⟩, ⟨#[120]⟩]
theorem drawnFields_size : ∀ s ∈ drawnFields, s.size ≤ 10 := by decide +kernel
theorem Row.otb {b c : Nat} {W w' : World} (h : Otb b W w') (hb : ¬ c = b) {vs : List Value} (hR : Row W c vs) : Row w' c vs := fun i v hi => by
  have hl := World.block_lt_of_cell? W _ (hR i v hi).1
  exact ⟨(h.cell hl hb).trans (hR i v hi).1, (h.frozen hl hb).trans (hR i v hi).2⟩
set_option maxRecDepth 100000 in
set_option maxHeartbeats 2000000 in
theorem u19 {Q : Exit → Act → World → Prop} {t2 t3 t4 t5 t7 t8 t9 t10 t11 t12 t13 t14 t15 t16 t17 t18 t19 t20 t21 t22 t23 t24 t25 t26 t27 t28 t29 t30 t31 t32 t33 t34 t35 t36 t37 t38 t39 t40 t41 t42 t43 t44 t45 t46 t47 t48 t49 t50 t51 t52 t53 t54 t55 t56 t57 t58 t59 t60 t61 t62 t63 t64 t65 : Value} {w0 : World} {B b : Nat} {a : Option Addr} {len cap d : Nat} {D p : Int} {W : World} {vb B0 L M c : Nat} {h0 : Hd} {av : Option Addr} {F : Vo}
    (H : DrawC w0 B b a len cap d) (hR : Rd w0 B b a len cap p W) (hq : p + 1 + pkD d ≤ 80000) (hd : d ≤ 1000) (hD : D = (d : Int) + 1) (hvb : ¬ vb = b) (hbB : b < B0) (hBW : B0 ≤ W.heap.size) (hv : Row W vb (six h0 av F.len c)) (hval : ValS B0 L M W h0 av c F) (hl : F.len = h0.ns.length) (hL : L ≤ 100)
    (hp : ∀ p d v a w, Q (.panic p) (Act.put a d v) w → Q (.panic p) a w) (h : ∀ ws h' a' c' F' p' v53 v54 v55 v56 v57 v58 v59 v60 v61 v62 v63 v64, Otb b W ws → Rd w0 B b a len cap p' ws → p' ≤ p + 1 + pkD d → ValS B0 (L + 1) (M + szD d + 1) ws h' a' c' F' → F'.len = h'.ns.length → Q .normal { tmps := (.pointer (some ⟨b, 0, none⟩) :: .int .i64 D :: t2 :: t3 :: t4 :: t5 :: .pointer (some ⟨vb, 0, none⟩) :: t7 :: t8 :: t9 :: t10 :: t11 :: t12 :: t13 :: t14 :: t15 :: t16 :: t17 :: t18 :: t19 :: t20 :: t21 :: t22 :: t23 :: t24 :: t25 :: t26 :: t27 :: t28 :: t29 :: t30 :: t31 :: t32 :: t33 :: t34 :: t35 :: t36 :: t37 :: t38 :: t39 :: t40 :: t41 :: t42 :: t43 :: t44 :: t45 :: t46 :: t47 :: t48 :: t49 :: t50 :: t51 :: t52 :: v53 :: v54 :: v55 :: v56 :: v57 :: v58 :: v59 :: v60 :: v61 :: v62 :: v63 :: v64 :: t65 :: []).toArray, defers := [] } (put6 ws vb 0 (.int .i64 h'.k) (.int .i64 h'.m) (.int .i64 h'.e) (.string h'.t) (.slice a' F'.len c') (.slice h'.na h'.ns.length h'.nc))) :
    Code.wp Try.prog (Code.region 19 #[{ dst := some 54, op := Op.load 28 (Operand.tmp 6), type := 28, pos := "l14_draw.go:581", after := #[], guard := none }, { dst := some 55, op := Op.move (Operand.tmp 0), type := 42, pos := "l14_draw.go:581", after := #[], guard := none }, { dst := some 56, op := Op.buildSlice 26 5 #[(0, Operand.const (Value.string { data := #[97] })), (1, Operand.const (Value.string { data := #[98] })), (2, Operand.const (Value.string { data := #[99] })), (3, Operand.const (Value.string { data := #[108, 111, 110, 103, 95, 110, 97, 109, 101, 49] })), (4, Operand.const (Value.string { data := #[120] }))], type := 26, pos := "l14_draw.go:581", after := #[], guard := none }, { dst := some 57, op := Op.call { callee := Callee.value (Operand.func 68), args := #[Operand.tmp 55, Operand.tmp 56], argTypes := #[42, 26] }, type := 9, pos := "l14_draw.go:581", after := #[{ on := 1, ground := Ground.data }, { on := 2, ground := Ground.data }], guard := none }, { dst := some 58, op := Op.move (Operand.tmp 0), type := 42, pos := "l14_draw.go:581", after := #[], guard := none }, { dst := some 59, op := Op.move (Operand.tmp 1), type := 3, pos := "l14_draw.go:581", after := #[], guard := none }, { dst := some 60, op := Op.binOp BinOp.sub 3 (Operand.tmp 59) (Operand.const (Value.int IntKind.i64 1)) 3, type := 3, pos := "l14_draw.go:581", after := #[{ on := 5, ground := Ground.data }], guard := none }, { dst := some 61, op := Op.call { callee := Callee.value (Operand.func 43), args := #[Operand.tmp 58, Operand.tmp 60], argTypes := #[42, 3] }, type := 28, pos := "l14_draw.go:581", after := #[{ on := 4, ground := Ground.data }, { on := 6, ground := Ground.data }, { on := 3, ground := Ground.chain }], guard := none }, { dst := some 62, op := Op.call { callee := Callee.value (Operand.func 67), args := #[Operand.tmp 54, Operand.tmp 57, Operand.tmp 61, Operand.const (Value.bool true)], argTypes := #[28, 9, 28, 4] }, type := 116, pos := "l14_draw.go:581", after := #[{ on := 0, ground := Ground.data }, { on := 3, ground := Ground.data }, { on := 7, ground := Ground.data }, { on := 7, ground := Ground.chain }], guard := none }, { dst := some 53, op := Op.move (Operand.tmp 62), type := 116, pos := "l14_draw.go:581", after := #[{ on := 8, ground := Ground.data }], guard := none }, { dst := some 63, op := Op.extract (Operand.tmp 53) 0, type := 28, pos := "l14_draw.go:581", after := #[{ on := 9, ground := Ground.data }], guard := none }, { dst := some 64, op := Op.extract (Operand.tmp 53) 1, type := 4, pos := "l14_draw.go:581", after := #[{ on := 9, ground := Ground.data }, { on := 12, ground := Ground.gcOnly Departure.lateStores }], guard := none }, { dst := none, op := Op.store 28 (Operand.tmp 6) (Operand.tmp 63), type := 0, pos := "l14_draw.go:581", after := #[{ on := 10, ground := Ground.data }, { on := 8, ground := Ground.chain }, { on := 0, ground := Ground.phase }, { on := 1, ground := Ground.phase }, { on := 2, ground := Ground.phase }, { on := 3, ground := Ground.phase }, { on := 4, ground := Ground.phase }, { on := 5, ground := Ground.phase }, { on := 6, ground := Ground.phase }, { on := 7, ground := Ground.phase }, { on := 8, ground := Ground.phase }, { on := 9, ground := Ground.phase }, { on := 10, ground := Ground.phase }, { on := 11, ground := Ground.textOnly Departure.lateStores }], guard := none }] true) Q { tmps := (.pointer (some ⟨b, 0, none⟩) :: .int .i64 D :: t2 :: t3 :: t4 :: t5 :: .pointer (some ⟨vb, 0, none⟩) :: t7 :: t8 :: t9 :: t10 :: t11 :: t12 :: t13 :: t14 :: t15 :: t16 :: t17 :: t18 :: t19 :: t20 :: t21 :: t22 :: t23 :: t24 :: t25 :: t26 :: t27 :: t28 :: t29 :: t30 :: t31 :: t32 :: t33 :: t34 :: t35 :: t36 :: t37 :: t38 :: t39 :: t40 :: t41 :: t42 :: t43 :: t44 :: t45 :: t46 :: t47 :: t48 :: t49 :: t50 :: t51 :: t52 :: t53 :: t54 :: t55 :: t56 :: t57 :: t58 :: t59 :: t60 :: t61 :: t62 :: t63 :: t64 :: t65 :: []).toArray, defers := [] } W := by
  have hvl := World.block_lt_of_cell? W _ (hv 0 _ rfl).1
  have hbl := hR.lt
  have HO : Hid (∀ w', Otb b W w' → Row w' vb (six h0 av F.len c)) := fun w' h => hv.otb h hvb
  have HV : Hid (∀ w', Otb b W w' → ValS B0 L M w' h0 av c F) := fun w' h => hval.otr (h.otr none) hbB (fun g hg => by cases hg)
  have HR : Hid (Rd w0 B b a len cap p W.drew) := hR.below ((Below.refl _ _).drew)
  have hO := (Otb.refl b W).drew
  have HL : Hid (F.len = h0.ns.length) := hl
  have HDD : Hid (D = (d : Int) + 1) := hD
  clear hv hR hl hD
  refine wp_region_held_drew (S := fun _ => True) (by kernel_rfl) trivial (fun _ => ?_)
  generalize W.drew = Wd at *
  have hSw : (fun _ : World => True) Wd := trivial
  refine wpAnyH_take (i := 1) (v := .pointer (some ⟨b, 0, none⟩)) rfl (by kernel_rfl) (by kernel_rfl) (by kernel_rfl) (fun _ _ _ h => hp _ _ _ _ _ h) (Or.inl ⟨by rfl, ?_⟩) (by assumption) ?_
  · intro w hSw
    (try dsimp only at hSw)
    go_simp
  (try simp only [Act.put, List.getElem_toArray, List.getElem_cons_zero, List.getElem_cons_succ, List.setIfInBounds_toArray, List.set_cons_zero, List.set_cons_succ])
  refine wpAnyH_take (i := 4) (v := .pointer (some ⟨b, 0, none⟩)) rfl (by kernel_rfl) (by kernel_rfl) (by kernel_rfl) (fun _ _ _ h => hp _ _ _ _ _ h) (Or.inl ⟨by rfl, ?_⟩) (by assumption) ?_
  · intro w hSw
    (try dsimp only at hSw)
    go_simp
  (try simp only [Act.put, List.getElem_toArray, List.getElem_cons_zero, List.getElem_cons_succ, List.setIfInBounds_toArray, List.set_cons_zero, List.set_cons_succ])
  refine wpAnyH_take (i := 5) (v := .int .i64 D) rfl (by kernel_rfl) (by kernel_rfl) (by kernel_rfl) (fun _ _ _ h => hp _ _ _ _ _ h) (Or.inl ⟨by rfl, ?_⟩) (by assumption) ?_
  · intro w hSw
    (try dsimp only at hSw)
    go_simp
  (try simp only [Act.put, List.getElem_toArray, List.getElem_cons_zero, List.getElem_cons_succ, List.setIfInBounds_toArray, List.set_cons_zero, List.set_cons_succ])
  refine wpAnyH_take (i := 6) (v := .int .i64 (d : Nat)) rfl (by kernel_rfl) (by kernel_rfl) (by kernel_rfl) (fun _ _ _ h => hp _ _ _ _ _ h) (Or.inl ⟨by rfl, ?_⟩) (by assumption) ?_
  · intro w hSw
    (try dsimp only at hSw)
    (go_simp; rw [IntKind.wrap_i64] <;> (have := HDD.out; omega))
  (try simp only [Act.put, List.getElem_toArray, List.getElem_cons_zero, List.getElem_cons_succ, List.setIfInBounds_toArray, List.set_cons_zero, List.set_cons_succ])
  clear hSw
  refine wpAnyH_ready (rs := [0, 2]) (by kernel_rfl) (by simp) ?_
  refine AllReadyH.cons rfl (fun K hK => ?_) (AllReadyH.cons rfl (fun K hK => ?_) AllReadyH.nil)
  · skip
    have hrow := HO.out _ hO
    have l0 := (hrow 0 _ rfl).1
    have l1 := (hrow 1 _ rfl).1
    have l2 := (hrow 2 _ rfl).1
    have l3 := (hrow 3 _ rfl).1
    have l4 := (hrow 4 _ rfl).1
    have l5 := (hrow 5 _ rfl).1
    clear hrow
    go_simp
    refine hK.out _ _ trivial (fun _ => ?_)
    clear hK K l0 l1 l2 l3 l4 l5
    (try simp only [Act.put, List.getElem_toArray, List.getElem_cons_zero, List.getElem_cons_succ, List.setIfInBounds_toArray, List.set_cons_zero, List.set_cons_succ])
    refine wpAnyH_ready (rs := [2]) (by kernel_rfl) (by simp) ?_
    refine AllReadyH.cons rfl (fun K hK => ?_) AllReadyH.nil
    go_simp
    have hO2 := hO.alloc (.cells #[.string ⟨#[97]⟩, .string ⟨#[98]⟩, .string ⟨#[99]⟩, .string ⟨#[108, 111, 110, 103, 95, 110, 97, 109, 101, 49]⟩, .string ⟨#[120]⟩] 9)
    have hR2 := HR.out.below ((Below.refl _ Wd).alloc (Nat.le_refl _) (.cells #[.string ⟨#[97]⟩, .string ⟨#[98]⟩, .string ⟨#[99]⟩, .string ⟨#[108, 111, 110, 103, 95, 110, 97, 109, 101, 49]⟩, .string ⟨#[120]⟩] 9))
    have hel : ∀ i, i < 5 → (Wd.alloc (.cells #[.string ⟨#[97]⟩, .string ⟨#[98]⟩, .string ⟨#[99]⟩, .string ⟨#[108, 111, 110, 103, 95, 110, 97, 109, 101, 49]⟩, .string ⟨#[120]⟩] 9)).cell? ⟨Wd.heap.size, i, none⟩ = some (.string (drawnFields.getD i default)) := by
      intro i hi
      have : i = 0 ∨ i = 1 ∨ i = 2 ∨ i = 3 ∨ i = 4 := by omega
      rcases this with rfl | rfl | rfl | rfl | rfl <;> simp [drawnFields]
    have hnb : ¬ Wd.heap.size = b := by have := hO.1; omega
    refine hK.out _ _ trivial (fun _ => ?_)
    clear hK K hO
    obtain ⟨g1, hg1⟩ : ∃ g, Wd.heap.size = g := ⟨_, rfl⟩
    rw [hg1] at hel hnb ⊢
    generalize Wd.alloc (.cells #[.string ⟨#[97]⟩, .string ⟨#[98]⟩, .string ⟨#[99]⟩, .string ⟨#[108, 111, 110, 103, 95, 110, 97, 109, 101, 49]⟩, .string ⟨#[120]⟩] 9) = w1 at *
    clear hg1
    have hO := hO2
    clear hO2 HR
    (try simp only [Act.put, List.getElem_toArray, List.getElem_cons_zero, List.getElem_cons_succ, List.setIfInBounds_toArray, List.set_cons_zero, List.set_cons_succ])
    refine wpAnyH_ready (rs := [3]) (by kernel_rfl) (by simp) ?_
    refine AllReadyH.cons rfl (fun K hK => ?_) AllReadyH.nil
    go_simp
    refine (of_any hR2 (by omega) g1 5 drawnFields hnb rfl (by omega) (by omega) hel).mono ?_
    rintro r w2 ⟨⟨s, rfl, hsm⟩, hst⟩
    have hs10 := drawnFields_size s hsm
    have hO2 := hO.stepped hst
    have hR3 := hR2.step hst
    clear hsm hst hel hnb hR2 hO
    have hO := hO2
    clear hO2
    go_wp2_with fail
    refine hK.out _ _ trivial (fun _ => ?_)
    clear hK K
    refine wpAnyH_ready (rs := [7]) (by kernel_rfl) (by simp) ?_
    refine AllReadyH.cons rfl (fun K hK => ?_) AllReadyH.nil
    have hH := H (p + 1) w2 hR3 hq
    go_simp
    refine hH.mono ?_
    rintro r w3 ⟨h1, G, ag, cg, p1, rfl, hg, hp1, hR4, hO1⟩
    have hO2 := hO.trans hO1
    have hB3 : B0 ≤ w2.heap.size := by have := hO.1; omega
    go_wp2_with fail
    refine hK.out _ _ trivial (fun _ => ?_)
    clear hK K hH hO hR3 hO1
    have hO := hO2
    clear hO2
    refine wpAnyH_ready (rs := [8]) (by kernel_rfl) (by simp) ?_
    refine AllReadyH.cons rfl (fun K hK => ?_) AllReadyH.nil
    have hv3 := HV.out _ hO
    obtain ⟨i1, i2, i3⟩ := hv3.in
    have hL3 := hv3.1.2.1
    go_simp
    refine (l7Into_any h0 av c F s h1 ag cg G true w3 i1 i2 i3 HL.out (by omega)).mono ?_
    rintro r w4 ⟨hI, hb4⟩
    obtain ⟨h', a', c', F', ok', rfl, hv4, hl4⟩ := hv3.into HL.out hg (by omega) hB3 hs10 (by have := hO.1; omega) hI hb4
    have hO4 := hO.below hb4
    have hR5 := hR4.below hb4
    have hrow := HO.out _ hO4
    have HL4 : Hid (F'.len = h'.ns.length) := hl4
    clear hI hb4 hO hv3 i1 i2 i3 hg hR4 hl4
    go_wp2_with fail
    refine hK.out _ _ trivial (fun _ => ?_)
    clear hK K
    have hSw : (fun _ : World => True) w4 := trivial
    refine wpAnyH_take (i := 9) (v := .tuple #[valV h' a' F'.len c', .bool ok']) rfl (by kernel_rfl) (by kernel_rfl) (by kernel_rfl) (fun _ _ _ h => hp _ _ _ _ _ h) (Or.inl ⟨by rfl, ?_⟩) (by assumption) ?_
    · intro w hSw
      (try dsimp only at hSw)
      go_simp
    (try simp only [Act.put, List.getElem_toArray, List.getElem_cons_zero, List.getElem_cons_succ, List.setIfInBounds_toArray, List.set_cons_zero, List.set_cons_succ])
    refine wpAnyH_take (i := 10) (v := valV h' a' F'.len c') rfl (by kernel_rfl) (by kernel_rfl) (by kernel_rfl) (fun _ _ _ h => hp _ _ _ _ _ h) (Or.inl ⟨by rfl, ?_⟩) (by assumption) ?_
    · intro w hSw
      (try dsimp only at hSw)
      go_simp
    (try simp only [Act.put, List.getElem_toArray, List.getElem_cons_zero, List.getElem_cons_succ, List.setIfInBounds_toArray, List.set_cons_zero, List.set_cons_succ])
    refine wpAnyH_take (i := 11) (v := .bool ok') rfl (by kernel_rfl) (by kernel_rfl) (by kernel_rfl) (fun _ _ _ h => hp _ _ _ _ _ h) (Or.inl ⟨by rfl, ?_⟩) (by assumption) ?_
    · intro w hSw
      (try dsimp only at hSw)
      go_simp
    (try simp only [Act.put, List.getElem_toArray, List.getElem_cons_zero, List.getElem_cons_succ, List.setIfInBounds_toArray, List.set_cons_zero, List.set_cons_succ])
    obtain ⟨l0, f0⟩ := hrow 0 _ rfl
    obtain ⟨l1, f1⟩ := hrow 1 _ rfl
    obtain ⟨l2, f2⟩ := hrow 2 _ rfl
    obtain ⟨l3, f3⟩ := hrow 3 _ rfl
    obtain ⟨l4, f4⟩ := hrow 4 _ rfl
    obtain ⟨l5, f5⟩ := hrow 5 _ rfl
    clear hrow
    refine wpAnyH_ready (rs := [12]) (by kernel_rfl) (by simp) ?_
    refine AllReadyH.cons rfl (fun K hK => ?_) AllReadyH.nil
    go_simp
    refine hK.out _ _ trivial (fun _ => ?_)
    refine wpAnyH_done (by kernel_rfl) ?_ _
    exact h _ _ _ _ _ _ _ _ _ _ _ _ _ _ _ _ _ _ hO4 hR5 hp1 hv4 HL4.out
  · skip
    go_simp
    have hO2 := hO.alloc (.cells #[.string ⟨#[97]⟩, .string ⟨#[98]⟩, .string ⟨#[99]⟩, .string ⟨#[108, 111, 110, 103, 95, 110, 97, 109, 101, 49]⟩, .string ⟨#[120]⟩] 9)
    have hR2 := HR.out.below ((Below.refl _ Wd).alloc (Nat.le_refl _) (.cells #[.string ⟨#[97]⟩, .string ⟨#[98]⟩, .string ⟨#[99]⟩, .string ⟨#[108, 111, 110, 103, 95, 110, 97, 109, 101, 49]⟩, .string ⟨#[120]⟩] 9))
    have hel : ∀ i, i < 5 → (Wd.alloc (.cells #[.string ⟨#[97]⟩, .string ⟨#[98]⟩, .string ⟨#[99]⟩, .string ⟨#[108, 111, 110, 103, 95, 110, 97, 109, 101, 49]⟩, .string ⟨#[120]⟩] 9)).cell? ⟨Wd.heap.size, i, none⟩ = some (.string (drawnFields.getD i default)) := by
      intro i hi
      have : i = 0 ∨ i = 1 ∨ i = 2 ∨ i = 3 ∨ i = 4 := by omega
      rcases this with rfl | rfl | rfl | rfl | rfl <;> simp [drawnFields]
    have hnb : ¬ Wd.heap.size = b := by have := hO.1; omega
    refine hK.out _ _ trivial (fun _ => ?_)
    clear hK K hO
    obtain ⟨g1, hg1⟩ : ∃ g, Wd.heap.size = g := ⟨_, rfl⟩
    rw [hg1] at hel hnb ⊢
    generalize Wd.alloc (.cells #[.string ⟨#[97]⟩, .string ⟨#[98]⟩, .string ⟨#[99]⟩, .string ⟨#[108, 111, 110, 103, 95, 110, 97, 109, 101, 49]⟩, .string ⟨#[120]⟩] 9) = w1 at *
    clear hg1
    have hO := hO2
    clear hO2 HR
    (try simp only [Act.put, List.getElem_toArray, List.getElem_cons_zero, List.getElem_cons_succ, List.setIfInBounds_toArray, List.set_cons_zero, List.set_cons_succ])
    refine wpAnyH_ready (rs := [0, 3]) (by kernel_rfl) (by simp) ?_
    refine AllReadyH.cons rfl (fun K hK => ?_) (AllReadyH.cons rfl (fun K hK => ?_) AllReadyH.nil)
    · skip
      have hrow := HO.out _ hO
      have l0 := (hrow 0 _ rfl).1
      have l1 := (hrow 1 _ rfl).1
      have l2 := (hrow 2 _ rfl).1
      have l3 := (hrow 3 _ rfl).1
      have l4 := (hrow 4 _ rfl).1
      have l5 := (hrow 5 _ rfl).1
      clear hrow
      go_simp
      refine hK.out _ _ trivial (fun _ => ?_)
      clear hK K l0 l1 l2 l3 l4 l5
      (try simp only [Act.put, List.getElem_toArray, List.getElem_cons_zero, List.getElem_cons_succ, List.setIfInBounds_toArray, List.set_cons_zero, List.set_cons_succ])
      refine wpAnyH_ready (rs := [3]) (by kernel_rfl) (by simp) ?_
      refine AllReadyH.cons rfl (fun K hK => ?_) AllReadyH.nil
      go_simp
      refine (of_any hR2 (by omega) g1 5 drawnFields hnb rfl (by omega) (by omega) hel).mono ?_
      rintro r w2 ⟨⟨s, rfl, hsm⟩, hst⟩
      have hs10 := drawnFields_size s hsm
      have hO2 := hO.stepped hst
      have hR3 := hR2.step hst
      clear hsm hst hel hnb hR2 hO
      have hO := hO2
      clear hO2
      go_wp2_with fail
      refine hK.out _ _ trivial (fun _ => ?_)
      clear hK K
      refine wpAnyH_ready (rs := [7]) (by kernel_rfl) (by simp) ?_
      refine AllReadyH.cons rfl (fun K hK => ?_) AllReadyH.nil
      have hH := H (p + 1) w2 hR3 hq
      go_simp
      refine hH.mono ?_
      rintro r w3 ⟨h1, G, ag, cg, p1, rfl, hg, hp1, hR4, hO1⟩
      have hO2 := hO.trans hO1
      have hB3 : B0 ≤ w2.heap.size := by have := hO.1; omega
      go_wp2_with fail
      refine hK.out _ _ trivial (fun _ => ?_)
      clear hK K hH hO hR3 hO1
      have hO := hO2
      clear hO2
      refine wpAnyH_ready (rs := [8]) (by kernel_rfl) (by simp) ?_
      refine AllReadyH.cons rfl (fun K hK => ?_) AllReadyH.nil
      have hv3 := HV.out _ hO
      obtain ⟨i1, i2, i3⟩ := hv3.in
      have hL3 := hv3.1.2.1
      go_simp
      refine (l7Into_any h0 av c F s h1 ag cg G true w3 i1 i2 i3 HL.out (by omega)).mono ?_
      rintro r w4 ⟨hI, hb4⟩
      obtain ⟨h', a', c', F', ok', rfl, hv4, hl4⟩ := hv3.into HL.out hg (by omega) hB3 hs10 (by have := hO.1; omega) hI hb4
      have hO4 := hO.below hb4
      have hR5 := hR4.below hb4
      have hrow := HO.out _ hO4
      have HL4 : Hid (F'.len = h'.ns.length) := hl4
      clear hI hb4 hO hv3 i1 i2 i3 hg hR4 hl4
      go_wp2_with fail
      refine hK.out _ _ trivial (fun _ => ?_)
      clear hK K
      have hSw : (fun _ : World => True) w4 := trivial
      refine wpAnyH_take (i := 9) (v := .tuple #[valV h' a' F'.len c', .bool ok']) rfl (by kernel_rfl) (by kernel_rfl) (by kernel_rfl) (fun _ _ _ h => hp _ _ _ _ _ h) (Or.inl ⟨by rfl, ?_⟩) (by assumption) ?_
      · intro w hSw
        (try dsimp only at hSw)
        go_simp
      (try simp only [Act.put, List.getElem_toArray, List.getElem_cons_zero, List.getElem_cons_succ, List.setIfInBounds_toArray, List.set_cons_zero, List.set_cons_succ])
      refine wpAnyH_take (i := 10) (v := valV h' a' F'.len c') rfl (by kernel_rfl) (by kernel_rfl) (by kernel_rfl) (fun _ _ _ h => hp _ _ _ _ _ h) (Or.inl ⟨by rfl, ?_⟩) (by assumption) ?_
      · intro w hSw
        (try dsimp only at hSw)
        go_simp
      (try simp only [Act.put, List.getElem_toArray, List.getElem_cons_zero, List.getElem_cons_succ, List.setIfInBounds_toArray, List.set_cons_zero, List.set_cons_succ])
      refine wpAnyH_take (i := 11) (v := .bool ok') rfl (by kernel_rfl) (by kernel_rfl) (by kernel_rfl) (fun _ _ _ h => hp _ _ _ _ _ h) (Or.inl ⟨by rfl, ?_⟩) (by assumption) ?_
      · intro w hSw
        (try dsimp only at hSw)
        go_simp
      (try simp only [Act.put, List.getElem_toArray, List.getElem_cons_zero, List.getElem_cons_succ, List.setIfInBounds_toArray, List.set_cons_zero, List.set_cons_succ])
      obtain ⟨l0, f0⟩ := hrow 0 _ rfl
      obtain ⟨l1, f1⟩ := hrow 1 _ rfl
      obtain ⟨l2, f2⟩ := hrow 2 _ rfl
      obtain ⟨l3, f3⟩ := hrow 3 _ rfl
      obtain ⟨l4, f4⟩ := hrow 4 _ rfl
      obtain ⟨l5, f5⟩ := hrow 5 _ rfl
      clear hrow
      refine wpAnyH_ready (rs := [12]) (by kernel_rfl) (by simp) ?_
      refine AllReadyH.cons rfl (fun K hK => ?_) AllReadyH.nil
      go_simp
      refine hK.out _ _ trivial (fun _ => ?_)
      refine wpAnyH_done (by kernel_rfl) ?_ _
      exact h _ _ _ _ _ _ _ _ _ _ _ _ _ _ _ _ _ _ hO4 hR5 hp1 hv4 HL4.out
    · skip
      go_simp
      refine (of_any hR2 (by omega) g1 5 drawnFields hnb rfl (by omega) (by omega) hel).mono ?_
      rintro r w2 ⟨⟨s, rfl, hsm⟩, hst⟩
      have hs10 := drawnFields_size s hsm
      have hO2 := hO.stepped hst
      have hR3 := hR2.step hst
      clear hsm hst hel hnb hR2 hO
      have hO := hO2
      clear hO2
      go_wp2_with fail
      refine hK.out _ _ trivial (fun _ => ?_)
      clear hK K
      refine wpAnyH_ready (rs := [0, 7]) (by kernel_rfl) (by simp) ?_
      refine AllReadyH.cons rfl (fun K hK => ?_) (AllReadyH.cons rfl (fun K hK => ?_) AllReadyH.nil)
      · skip
        have hrow := HO.out _ hO
        have l0 := (hrow 0 _ rfl).1
        have l1 := (hrow 1 _ rfl).1
        have l2 := (hrow 2 _ rfl).1
        have l3 := (hrow 3 _ rfl).1
        have l4 := (hrow 4 _ rfl).1
        have l5 := (hrow 5 _ rfl).1
        clear hrow
        go_simp
        refine hK.out _ _ trivial (fun _ => ?_)
        clear hK K l0 l1 l2 l3 l4 l5
        (try simp only [Act.put, List.getElem_toArray, List.getElem_cons_zero, List.getElem_cons_succ, List.setIfInBounds_toArray, List.set_cons_zero, List.set_cons_succ])
        refine wpAnyH_ready (rs := [7]) (by kernel_rfl) (by simp) ?_
        refine AllReadyH.cons rfl (fun K hK => ?_) AllReadyH.nil
        have hH := H (p + 1) w2 hR3 hq
        go_simp
        refine hH.mono ?_
        rintro r w3 ⟨h1, G, ag, cg, p1, rfl, hg, hp1, hR4, hO1⟩
        have hO2 := hO.trans hO1
        have hB3 : B0 ≤ w2.heap.size := by have := hO.1; omega
        go_wp2_with fail
        refine hK.out _ _ trivial (fun _ => ?_)
        clear hK K hH hO hR3 hO1
        have hO := hO2
        clear hO2
        refine wpAnyH_ready (rs := [8]) (by kernel_rfl) (by simp) ?_
        refine AllReadyH.cons rfl (fun K hK => ?_) AllReadyH.nil
        have hv3 := HV.out _ hO
        obtain ⟨i1, i2, i3⟩ := hv3.in
        have hL3 := hv3.1.2.1
        go_simp
        refine (l7Into_any h0 av c F s h1 ag cg G true w3 i1 i2 i3 HL.out (by omega)).mono ?_
        rintro r w4 ⟨hI, hb4⟩
        obtain ⟨h', a', c', F', ok', rfl, hv4, hl4⟩ := hv3.into HL.out hg (by omega) hB3 hs10 (by have := hO.1; omega) hI hb4
        have hO4 := hO.below hb4
        have hR5 := hR4.below hb4
        have hrow := HO.out _ hO4
        have HL4 : Hid (F'.len = h'.ns.length) := hl4
        clear hI hb4 hO hv3 i1 i2 i3 hg hR4 hl4
        go_wp2_with fail
        refine hK.out _ _ trivial (fun _ => ?_)
        clear hK K
        have hSw : (fun _ : World => True) w4 := trivial
        refine wpAnyH_take (i := 9) (v := .tuple #[valV h' a' F'.len c', .bool ok']) rfl (by kernel_rfl) (by kernel_rfl) (by kernel_rfl) (fun _ _ _ h => hp _ _ _ _ _ h) (Or.inl ⟨by rfl, ?_⟩) (by assumption) ?_
        · intro w hSw
          (try dsimp only at hSw)
          go_simp
        (try simp only [Act.put, List.getElem_toArray, List.getElem_cons_zero, List.getElem_cons_succ, List.setIfInBounds_toArray, List.set_cons_zero, List.set_cons_succ])
        refine wpAnyH_take (i := 10) (v := valV h' a' F'.len c') rfl (by kernel_rfl) (by kernel_rfl) (by kernel_rfl) (fun _ _ _ h => hp _ _ _ _ _ h) (Or.inl ⟨by rfl, ?_⟩) (by assumption) ?_
        · intro w hSw
          (try dsimp only at hSw)
          go_simp
        (try simp only [Act.put, List.getElem_toArray, List.getElem_cons_zero, List.getElem_cons_succ, List.setIfInBounds_toArray, List.set_cons_zero, List.set_cons_succ])
        refine wpAnyH_take (i := 11) (v := .bool ok') rfl (by kernel_rfl) (by kernel_rfl) (by kernel_rfl) (fun _ _ _ h => hp _ _ _ _ _ h) (Or.inl ⟨by rfl, ?_⟩) (by assumption) ?_
        · intro w hSw
          (try dsimp only at hSw)
          go_simp
        (try simp only [Act.put, List.getElem_toArray, List.getElem_cons_zero, List.getElem_cons_succ, List.setIfInBounds_toArray, List.set_cons_zero, List.set_cons_succ])
        obtain ⟨l0, f0⟩ := hrow 0 _ rfl
        obtain ⟨l1, f1⟩ := hrow 1 _ rfl
        obtain ⟨l2, f2⟩ := hrow 2 _ rfl
        obtain ⟨l3, f3⟩ := hrow 3 _ rfl
        obtain ⟨l4, f4⟩ := hrow 4 _ rfl
        obtain ⟨l5, f5⟩ := hrow 5 _ rfl
        clear hrow
        refine wpAnyH_ready (rs := [12]) (by kernel_rfl) (by simp) ?_
        refine AllReadyH.cons rfl (fun K hK => ?_) AllReadyH.nil
        go_simp
        refine hK.out _ _ trivial (fun _ => ?_)
        refine wpAnyH_done (by kernel_rfl) ?_ _
        exact h _ _ _ _ _ _ _ _ _ _ _ _ _ _ _ _ _ _ hO4 hR5 hp1 hv4 HL4.out
      · skip
        have hH := H (p + 1) w2 hR3 hq
        go_simp
        refine hH.mono ?_
        rintro r w3 ⟨h1, G, ag, cg, p1, rfl, hg, hp1, hR4, hO1⟩
        have hO2 := hO.trans hO1
        have hB3 : B0 ≤ w2.heap.size := by have := hO.1; omega
        go_wp2_with fail
        refine hK.out _ _ trivial (fun _ => ?_)
        clear hK K hH hO hR3 hO1
        have hO := hO2
        clear hO2
        refine wpAnyH_ready (rs := [0]) (by kernel_rfl) (by simp) ?_
        refine AllReadyH.cons rfl (fun K hK => ?_) AllReadyH.nil
        have hrow := HO.out _ hO
        have l0 := (hrow 0 _ rfl).1
        have l1 := (hrow 1 _ rfl).1
        have l2 := (hrow 2 _ rfl).1
        have l3 := (hrow 3 _ rfl).1
        have l4 := (hrow 4 _ rfl).1
        have l5 := (hrow 5 _ rfl).1
        clear hrow
        go_simp
        refine hK.out _ _ trivial (fun _ => ?_)
        clear hK K l0 l1 l2 l3 l4 l5
        (try simp only [Act.put, List.getElem_toArray, List.getElem_cons_zero, List.getElem_cons_succ, List.setIfInBounds_toArray, List.set_cons_zero, List.set_cons_succ])
        refine wpAnyH_ready (rs := [8]) (by kernel_rfl) (by simp) ?_
        refine AllReadyH.cons rfl (fun K hK => ?_) AllReadyH.nil
        have hv3 := HV.out _ hO
        obtain ⟨i1, i2, i3⟩ := hv3.in
        have hL3 := hv3.1.2.1
        go_simp
        refine (l7Into_any h0 av c F s h1 ag cg G true w3 i1 i2 i3 HL.out (by omega)).mono ?_
        rintro r w4 ⟨hI, hb4⟩
        obtain ⟨h', a', c', F', ok', rfl, hv4, hl4⟩ := hv3.into HL.out hg (by omega) hB3 hs10 (by have := hO.1; omega) hI hb4
        have hO4 := hO.below hb4
        have hR5 := hR4.below hb4
        have hrow := HO.out _ hO4
        have HL4 : Hid (F'.len = h'.ns.length) := hl4
        clear hI hb4 hO hv3 i1 i2 i3 hg hR4 hl4
        go_wp2_with fail
        refine hK.out _ _ trivial (fun _ => ?_)
        clear hK K
        have hSw : (fun _ : World => True) w4 := trivial
        refine wpAnyH_take (i := 9) (v := .tuple #[valV h' a' F'.len c', .bool ok']) rfl (by kernel_rfl) (by kernel_rfl) (by kernel_rfl) (fun _ _ _ h => hp _ _ _ _ _ h) (Or.inl ⟨by rfl, ?_⟩) (by assumption) ?_
        · intro w hSw
          (try dsimp only at hSw)
          go_simp
        (try simp only [Act.put, List.getElem_toArray, List.getElem_cons_zero, List.getElem_cons_succ, List.setIfInBounds_toArray, List.set_cons_zero, List.set_cons_succ])
        refine wpAnyH_take (i := 10) (v := valV h' a' F'.len c') rfl (by kernel_rfl) (by kernel_rfl) (by kernel_rfl) (fun _ _ _ h => hp _ _ _ _ _ h) (Or.inl ⟨by rfl, ?_⟩) (by assumption) ?_
        · intro w hSw
          (try dsimp only at hSw)
          go_simp
        (try simp only [Act.put, List.getElem_toArray, List.getElem_cons_zero, List.getElem_cons_succ, List.setIfInBounds_toArray, List.set_cons_zero, List.set_cons_succ])
        refine wpAnyH_take (i := 11) (v := .bool ok') rfl (by kernel_rfl) (by kernel_rfl) (by kernel_rfl) (fun _ _ _ h => hp _ _ _ _ _ h) (Or.inl ⟨by rfl, ?_⟩) (by assumption) ?_
        · intro w hSw
          (try dsimp only at hSw)
          go_simp
        (try simp only [Act.put, List.getElem_toArray, List.getElem_cons_zero, List.getElem_cons_succ, List.setIfInBounds_toArray, List.set_cons_zero, List.set_cons_succ])
        obtain ⟨l0, f0⟩ := hrow 0 _ rfl
        obtain ⟨l1, f1⟩ := hrow 1 _ rfl
        obtain ⟨l2, f2⟩ := hrow 2 _ rfl
        obtain ⟨l3, f3⟩ := hrow 3 _ rfl
        obtain ⟨l4, f4⟩ := hrow 4 _ rfl
        obtain ⟨l5, f5⟩ := hrow 5 _ rfl
        clear hrow
        refine wpAnyH_ready (rs := [12]) (by kernel_rfl) (by simp) ?_
        refine AllReadyH.cons rfl (fun K hK => ?_) AllReadyH.nil
        go_simp
        refine hK.out _ _ trivial (fun _ => ?_)
        refine wpAnyH_done (by kernel_rfl) ?_ _
        exact h _ _ _ _ _ _ _ _ _ _ _ _ _ _ _ _ _ _ hO4 hR5 hp1 hv4 HL4.out
end Go.Proofs.Ytalncebnahlmdaa
/- Drawn values: an item more behind an array; what stays when another block is written. -/
namespace Go.Proofs.Ytalncebnahlmdaa
open Go.RowKit
theorem Vo.Blk.and {P Q : Nat → Prop} : ∀ {F : Vo}, F.Blk P → F.Blk Q → F.Blk (fun x => P x ∧ Q x) := by
  intro F
  induction F with
  | nil => exact fun _ _ => trivial
  | cons h a c kids next ih1 ih2 =>
    rintro ⟨p1, p2, p3, p4⟩ ⟨q1, q2, q3, q4⟩
    refine ⟨?_, ?_, ih1 p3 q3, ih2 p4 q4⟩
    · rcases p1 with p1 | ⟨b, o, e1, e2⟩
      · exact .inl p1
      · rcases q1 with q1 | ⟨b', o', e3, e4⟩
        · exact .inl q1
        · rw [e1] at e3; cases e3; exact .inr ⟨b, o, e1, e2, e4⟩
    · rcases p2 with p2 | ⟨b, o, e1, e2⟩
      · exact .inl p2
      · rcases q2 with q2 | ⟨b', o', e3, e4⟩
        · exact .inl q2
        · rw [e1] at e3; cases e3; exact .inr ⟨b, o, e1, e2, e4⟩
theorem Otr.setCell (b : Nat) {j o : Nat} (w : World) (u : Value) : Otr b (some j) w (w.setCell ⟨j, o, none⟩ u) :=
  ⟨by simp [World.setCell], fun x _ _ h3 => heap_setCell_other _ _ _ _ (fun e => h3 (by rw [e]))⟩
theorem Otr.trans {b : Nat} {r : Option Nat} {W w' w'' : World} (h : Otr b r W w') (k : Otr b r w' w'') : Otr b r W w'' :=
  ⟨Nat.le_trans h.1 k.1, fun x h1 h2 h3 => (k.2 x (Nat.lt_of_lt_of_le h1 h.1) h2 h3).trans (h.2 x h1 h2 h3)⟩
theorem Otr.put6 (b : Nat) {j o : Nat} (w : World) (v0 v1 v2 v3 v4 v5 : Value) : Otr b (some j) w (put6 w j o v0 v1 v2 v3 v4 v5) :=
  (((((Otr.setCell b w v0).trans (Otr.setCell b _ v1)).trans (Otr.setCell b _ v2)).trans (Otr.setCell b _ v3)).trans (Otr.setCell b _ v4)).trans (Otr.setCell b _ v5)
theorem ValS.blank {B0 L M : Nat} {w : World} {k m e : Int} {t : ByteArray} (ht : t.size ≤ 7) : ValS B0 L M w ⟨k, m, e, t, none, 0, []⟩ none 0 .nil :=
  ⟨⟨⟨Nat.zero_le _, Nat.zero_le _, Nat.zero_le _, ⟨trivial, fun _ => Nat.zero_le _, trivial⟩⟩, Nat.zero_le _, ht, fun s hs => by cases hs⟩, World.ownsRow_nil _ _ _ _, World.ownsRow_nil _ _ _ _, ⟨trivial, trivial⟩, trivial⟩
theorem ValS.more {B0 L M b d vb o : Nat} {w ws : World} {h h1 : Hd} {a a' ag : Option Addr} {c c' cg : Nat} {F G : Vo} {u : Value} (hv : ValS B0 L M w h a c F) (hbB : b < B0) (hBw : B0 ≤ w.heap.size) (hvb : vb < B0)
    (hn : h.na = none ∧ h.nc = 0 ∧ h.ns = []) (hk6 : ¬ h.k = 6) (hO : Otr b (blkOf a) w ws) (hg : ValS w.heap.size 3 d ws h1 ag cg G) (hown : ws.ownsRow B0 28 6 (.slice a' (F.len + 1) c') (F.len + 1) (F.app (oneV h1 ag cg G)).cells)
    (hob : blkOf a' = blkOf a ∨ ∃ g, blkOf a' = some g ∧ w.heap.size ≤ g ∧ (oneV h1 ag cg G).Blk (fun x => x < g)) :
    ValS B0 (L + 1) (M + d + 1) (ws.setCell ⟨vb, o, none⟩ u) h a' c' (F.app (oneV h1 ag cg G)) := by
  obtain ⟨⟨⟨l1, l2, l3, l4⟩, l5, l6, l7⟩, h6, _, hk, hB⟩ := hv
  have hS := Otr.setCell b (j := vb) (o := o) ws u
  have hg2 := hg.otr hS (by omega) (fun g hg => by cases hg; omega)
  have gwt := oneV_wt hg (by omega)
  have gfew := oneV_few hg (by omega)
  have gs : (oneV h1 ag cg G).size = G.size + 1 := rfl
  have gM := hg.1.1.2.1
  have el : (F.app (oneV h1 ag cg G)).len = F.len + 1 := Vo.app_len _ _
  have es := Vo.app_size F (oneV h1 ag cg G)
  have ew := Vo.app_wt F (oneV h1 ag cg G)
  obtain ⟨n1, n2, n3⟩ := hn
  have hsz := hS.1
  have hz := hO.1
  refine ⟨⟨⟨by omega, by omega, by omega, ⟨Vo.app_few l4.1 gfew, fun e => absurd e hk6, Vo.app_nob l4.2.2 (oneV_nob hg)⟩⟩, by omega, l6, l7⟩, ?_, ?_, ?_, ?_⟩
  · rw [el]
    exact own_set hown (fun g hg => by have := (hown.lt g hg).1; omega) u
  · rw [n1, n2, n3]; exact World.ownsRow_nil _ _ _ _
  · have hb3 : F.Blk (fun x => ¬ x = b ∧ some x ≠ some vb) := hB.mono fun x hx => ⟨by omega, fun e => by have e' : x = vb := Option.some.inj e; omega⟩
    have hb4 : F.Blk (fun x => ¬ x = b ∧ some x ≠ blkOf a) := hB.mono fun x hx => ⟨by omega, hx.2.1⟩
    exact ⟨Vo.app_kin (hS.kin hb3 (hO.kin hb4 hk.1)) hg2.one, Vo.app_cl (hS.cl hb3 (hO.cl hb4 hk.2)) hg2.oneCl⟩
  · have hna : ∀ x : Nat, some x ≠ blkOf h.na := fun x e => by rw [n1] at e; cases e
    have p1 : F.Blk (fun x => (B0 ≤ x ∧ x < (ws.setCell ⟨vb, o, none⟩ u).heap.size) ∧ some x ≠ blkOf a' ∧ some x ≠ blkOf h.na) := by
      refine hB.mono fun x hx => ⟨⟨hx.1.1, by omega⟩, fun e => ?_, hna x⟩
      rcases hob with hob | ⟨g, hob, hge, _⟩
      · exact hx.2.1 (e.trans hob)
      · rw [hob] at e; cases e; omega
    refine Vo.app_blk p1 ?_
    · rcases hob with hob | ⟨g, hob, hge, hlt⟩
      · refine hg.blk.mono fun x hx => ⟨⟨by omega, by omega⟩, fun e => ?_, hna x⟩
        rw [hob] at e
        have := (h6.lt x (by rw [ownBlock_blkOf]; exact e.symm)).2
        omega
      · refine (hg.blk.and hlt).mono fun x hx => ⟨⟨by omega, by omega⟩, fun e => ?_, hna x⟩
        rw [hob] at e
        cases e
        exact Nat.lt_irrefl _ hx.2
end Go.Proofs.Ytalncebnahlmdaa
/- Values that own their memory: what is known of a copy, and how it stays; blocks that are apart. -/
namespace Go.Proofs.Ytalncebnahlmdaa
open Go.RowKit
/-- no block holds two lists: every value's lists lie apart, and apart from what is in them -/
def sepOne (h : Hd) (a : Option Addr) (kids : Vo) : Prop := kids.Blk (fun x => some x ≠ blkOf a ∧ some x ≠ blkOf h.na) ∧ (kids = .nil ∨ h.ns = [] ∨ blkOf a ≠ blkOf h.na)
def Vo.Sep : Vo → Prop
  | .nil => True
  | .cons h a c kids next => (kids.Sep ∧ sepOne h a kids) ∧ (∃ P : Nat → Prop, (oneV h a c kids).Blk P ∧ next.Blk (fun x => ¬ P x)) ∧ next.Sep
theorem Vo.sep_app {P : Nat → Prop} : ∀ {F G : Vo}, F.Sep → G.Sep → F.Blk P → G.Blk (fun x => ¬ P x) → (F.app G).Sep := by
  intro F
  induction F with
  | nil => exact fun _ h _ _ => h
  | cons h a c kids next _ ih =>
    rintro G ⟨h1, ⟨Q, q1, q2⟩, h3⟩ hG hF hN
    have hone : (oneV h a c kids).Blk P := ⟨hF.1, hF.2.1, hF.2.2.1, trivial⟩
    refine ⟨h1, ⟨fun x => Q x ∧ P x, q1.and hone, Vo.app_blk (q2.mono fun x hx e => hx e.1) (hN.mono fun x hx e => hx e.2)⟩, ih h3 hG hF.2.2.2 hN⟩
/-- a value whose lists are owned, what is in them lies elsewhere, all apart -/
def OwnS (B0 : Nat) (w : World) (h : Hd) (a : Option Addr) (c : Nat) (F : Vo) : Prop :=
  (h.t.size ≤ maxLen ∧ ∀ s ∈ h.ns, s.size ≤ maxLen) ∧
  w.ownsRow B0 28 6 (.slice a F.len c) F.len F.cells ∧ w.ownsRow B0 9 1 (.slice h.na h.ns.length h.nc) h.ns.length (texts h.ns) ∧ (F.Kin w ∧ F.Cl w ∧ F.Sep) ∧
  F.Blk (fun x => (B0 ≤ x ∧ x < w.heap.size) ∧ some x ≠ blkOf a ∧ some x ≠ blkOf h.na)
theorem OwnS.in {B0 : Nat} {w : World} {h : Hd} {a : Option Addr} {c : Nat} {F : Vo} (x : OwnS B0 w h a c F) : F.In w a ∧ (F.len ≤ c ∧ c ≤ maxLen) ∧ h.In w := by
  obtain ⟨⟨ht, hs⟩, h6, h1, hk, _⟩ := x
  obtain ⟨a', c', e, hl, hc, _⟩ := own_lies h6
  cases e
  refine ⟨hl.in hk.1, hc, ?_⟩
  obtain ⟨a2, c2, e2, hl2, hc2, _⟩ := own_lies h1
  cases e2
  exact ⟨hl2.sin hs, hc2, ht⟩
theorem OwnS.one {B0 : Nat} {w : World} {h : Hd} {a : Option Addr} {c : Nat} {F : Vo} (x : OwnS B0 w h a c F) : (oneV h a c F).Kin w ∧ (oneV h a c F).Cl w :=
  ⟨Vo.kin_one.2 x.in, own_pl x.2.1, x.2.2.2.1.2.1, trivial⟩
theorem OwnS.blk {B0 : Nat} {w : World} {h : Hd} {a : Option Addr} {c : Nat} {F : Vo} (x : OwnS B0 w h a c F) : (oneV h a c F).Blk (fun x => B0 ≤ x ∧ x < w.heap.size) := by
  obtain ⟨_, h6, h1, _, hB⟩ := x
  refine ⟨?_, ?_, hB.mono (fun b hb => hb.1), trivial⟩
  · obtain ⟨a', c', e, _, _, h0⟩ := own_lies h1
    rcases h0 with h0 | ⟨b, e1, e2, e3⟩
    · exact .inl (List.eq_nil_of_length_eq_zero h0)
    · refine .inr ⟨b, 0, ?_, e3, (h1.lt b e2).2⟩
      cases e; exact e1
  · obtain ⟨a', c', e, _, _, h0⟩ := own_lies h6
    rcases h0 with h0 | ⟨b, e1, e2, e3⟩
    · left
      cases F with
      | nil => rfl
      | cons h0' a0 c0 k0 n0 => exact absurd h0 (Nat.succ_ne_zero _)
    · refine .inr ⟨b, 0, ?_, e3, (h6.lt b e2).2⟩
      cases e; exact e1
theorem own_apart {w : World} {B B' n n' s s' : Nat} {e e' : TypeId} {v v' : Value} {xs xs' : List Value} (h : w.ownsRow B e s v n xs) (h' : w.ownsRow B' e' s' v' n' xs') (hne : e ≠ e') {g : Nat} (hg : v.ownBlock = some g) : v'.ownBlock ≠ some g := by
  intro hg'
  rcases h.2 with ⟨rfl, _⟩ | ⟨g1, _, _, rfl, _, h1, _⟩
  · cases hg
  · rcases h'.2 with ⟨rfl, _⟩ | ⟨g2, _, _, rfl, _, h2, _⟩
    · cases hg'
    · cases hg; cases hg'
      rw [h1] at h2
      cases h2
      exact hne rfl
theorem OwnS.sep {B0 : Nat} {w : World} {h : Hd} {a : Option Addr} {c : Nat} {F : Vo} (x : OwnS B0 w h a c F) : (oneV h a c F).Sep := by
  obtain ⟨_, h6, h1, hk, hB⟩ := x
  refine ⟨⟨hk.2.2, hB.mono (fun b hb => hb.2), ?_⟩, ⟨fun _ => True, ⟨?_, ?_, hB.mono (fun _ _ => trivial), trivial⟩, trivial⟩, trivial⟩
  · by_cases hn : h.ns = []
    · exact .inr (.inl hn)
    · cases hF : F with
      | nil => exact .inl rfl
      | cons h0' a0 c0 k0 n0 =>
        refine .inr (.inr fun e => ?_)
        obtain ⟨a', c', e6, _, _, h0⟩ := own_lies h6
        rcases h0 with h0 | ⟨b, e1, e2, e3⟩
        · rw [hF] at h0; exact absurd h0 (Nat.succ_ne_zero _)
        · refine own_apart h6 h1 (by decide) e2 ?_
          rw [ownBlock_blkOf] at e2 ⊢
          rw [← e]; exact e2
  · obtain ⟨a', c', e, _, _, h0⟩ := own_lies h1
    rcases h0 with h0 | ⟨b, e1, e2, e3⟩
    · exact .inl (List.eq_nil_of_length_eq_zero h0)
    · refine .inr ⟨b, 0, ?_, trivial⟩
      cases e; exact e1
  · obtain ⟨a', c', e, _, _, h0⟩ := own_lies h6
    rcases h0 with h0 | ⟨b, e1, e2, e3⟩
    · left
      cases F with
      | nil => rfl
      | cons h0' a0 c0 k0 n0 => exact absurd h0 (Nat.succ_ne_zero _)
    · refine .inr ⟨b, 0, ?_, trivial⟩
      cases e; exact e1
theorem OwnS.below {B0 : Nat} {W w' : World} {h : Hd} {a : Option Addr} {c : Nat} {F : Vo} (x : OwnS B0 W h a c F) (k : Below W.heap.size W w') : OwnS B0 w' h a c F := by
  obtain ⟨h0, h6, h1, hk, hB⟩ := x
  exact ⟨h0, own_keep h6 k, own_keep h1 k, ⟨Vo.kin_grow k hk.1, hk.2.1.below k, hk.2.2⟩, hB.mono (fun x hx => ⟨⟨hx.1.1, Nat.lt_of_lt_of_le hx.1.2 k.size⟩, hx.2⟩)⟩
theorem OwnS.mono {B0 B1 : Nat} {W : World} {h : Hd} {a : Option Addr} {c : Nat} {F : Vo} (x : OwnS B0 W h a c F) (hB : B1 ≤ B0) : OwnS B1 W h a c F := by
  obtain ⟨h0, h6, h1, hk, hBl⟩ := x
  exact ⟨h0, own_mono h6 hB, own_mono h1 hB, hk, hBl.mono (fun x hx => ⟨⟨by omega, hx.1.2⟩, hx.2⟩)⟩
theorem OwnS.grown {B0 : Nat} {r : Option Nat} {W w' : World} {h : Hd} {a : Option Addr} {c : Nat} {F : Vo} (x : OwnS B0 W h a c F) (k : W.grownBy w' r) (hr : ∀ g, r = some g → g < B0) : OwnS B0 w' h a c F := by
  obtain ⟨h0, h6, h1, hk, hB⟩ := x
  have hO : Otr W.heap.size r W w' := ⟨k.size, fun x h1 _ h3 => k.block x h1 h3⟩
  have hb2 : F.Blk (fun x => ¬ x = W.heap.size ∧ some x ≠ r) := hB.mono fun x hx => ⟨by omega, fun e => by have := hr x e.symm; omega⟩
  have hown : ∀ {e : TypeId} {size n : Nat} {v : Value} {xs : List Value}, W.ownsRow B0 e size v n xs → w'.ownsRow B0 e size v n xs := by
    rintro e size n v xs ⟨q1, q2⟩
    refine ⟨q1, ?_⟩
    rcases q2 with q2 | ⟨g, cap, cur, rfl, e2, e3, e4⟩
    · exact .inl q2
    · exact .inr ⟨g, cap, cur, rfl, e2, by rw [k.block g (Array.getElem?_eq_some_iff.1 e3).1 (fun e => by have := hr g e.symm; omega)]; exact e3, e4⟩
  exact ⟨h0, hown h6, hown h1, ⟨hO.kin hb2 hk.1, hO.cl hb2 hk.2.1, hk.2.2⟩, hB.mono (fun x hx => ⟨⟨hx.1.1, Nat.lt_of_lt_of_le hx.1.2 k.size⟩, hx.2⟩)⟩
end Go.Proofs.Ytalncebnahlmdaa
