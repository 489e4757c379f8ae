/- My own texts, joined: Ut Uv. -/
import Derived.Test.YtfgchdnpbbgmjaaJFnTomlNot10
/- Drawn values: l14Fits's region that puts a value into an object. -/
namespace Go.Proofs.Ytfgchdnpbbgmjaa
open Go.RowKit
/-- the names that an object has that is drawn to be written -/
def fitFields : List ByteArray := [⟨#[97]⟩, ⟨#[98]⟩, ⟨#[99]⟩, ⟨#[100]⟩, ⟨#[120]⟩]
theorem fitFields_size : ∀ s ∈ fitFields, s.size ≤ 10 := by decide +kernel
/-- how great an object may be that is drawn to be written -/
def szT : Nat → Nat
  | 0 => 28
  | d + 1 => 4 * (szT d + 1)
/-- how often it is picked -/
def pkT : Nat → Nat
  | 0 => 1300
  | d + 1 => 1300 + 4 * (pkT d + 5)
/-- what l14Fits answers -/
def FitsC (w0 : World) (B b : Nat) (a : Option Addr) (len cap d : Nat) : Prop := ∀ (p : Int) (W : World), Rd w0 B b a len cap p W → p + pkT d ≤ 60000 →
  Calls Try.prog 21 #[.pointer (some ⟨b, 0, none⟩), .int .i64 (d : Nat)] W fun e w' => ∃ h F av c p', e = .returned (valV h av F.len c) ∧ ValS W.heap.size 4 (szT d) w' h av c F ∧ p' ≤ p + pkT d ∧ Rd w0 B b a len cap p' w' ∧ Otb b W w'
set_option maxRecDepth 100000 in
set_option maxHeartbeats 2000000 in
theorem uf8 {Q : Exit → Act → World → Prop} {t1 t2 t3 t4 t6 t8 t9 t10 t11 t12 t13 t14 t15 t16 t17 t18 t19 t20 t21 t22 t23 t24 t25 t26 t27 t28 t29 t30 t31 t32 t33 t34 t35 t36 t37 : Value} {w0 : World} {B b : Nat} {a : Option Addr} {len cap : Nat} {p : Int} {W : World} {vb xb B0 B1 L Lg M d c cg : Nat} {h0 h1 : Hd} {av ag : Option Addr} {F G : Vo}
    (hR : Rd w0 B b a len cap p W) (hq : p ≤ 60000) (hvb : ¬ vb = b) (hxb : ¬ xb = b) (hxv : ¬ xb = vb) (hbB : b < B0) (hBW : B0 ≤ W.heap.size) (hv : Row W vb (six h0 av F.len c)) (hx : Row W xb (six h1 ag G.len cg)) (hval : ValS B0 L M W h0 av c F) (hg : ValS B1 Lg d W h1 ag cg G) (hLg : Lg ≤ 4) (hB1 : B0 ≤ B1) (hl : F.len = h0.ns.length) (hL : L ≤ 100)
    (hp : ∀ p d v a w, Q (.panic p) (Act.put a d v) w → Q (.panic p) a w) (h : ∀ ws h' a' c' F' v28 v29 v30 v31 v32 v33 v34 v35 v36, Otb b W ws → Rd w0 B b a len cap (p + 1) ws → ValS B0 (L + 1) (M + d + 1) ws h' a' c' F' → F'.len = h'.ns.length → Q .normal { tmps := (.pointer (some ⟨b, 0, none⟩) :: t1 :: t2 :: t3 :: t4 :: .pointer (some ⟨vb, 0, none⟩) :: t6 :: .pointer (some ⟨xb, 0, none⟩) :: t8 :: t9 :: t10 :: t11 :: t12 :: t13 :: t14 :: t15 :: t16 :: t17 :: t18 :: t19 :: t20 :: t21 :: t22 :: t23 :: t24 :: t25 :: t26 :: t27 :: v28 :: v29 :: v30 :: v31 :: v32 :: v33 :: v34 :: v35 :: v36 :: t37 :: []).toArray, defers := [] } (put6 ws vb 0 (.int .i64 h'.k) (.int .i64 h'.m) (.int .i64 h'.e) (.string h'.t) (.slice a' F'.len c') (.slice h'.na h'.ns.length h'.nc))) :
    Code.wp Try.prog (Code.region 8 #[{ dst := some 29, op := Op.load 28 (Operand.tmp 5), type := 28, pos := "l14_draw.go:809", after := #[], guard := none }, { dst := some 30, op := Op.move (Operand.tmp 0), type := 45, pos := "l14_draw.go:809", after := #[], guard := none }, { dst := some 31, op := Op.buildSlice 26 5 #[(0, Operand.const (Value.string { data := #[97] })), (1, Operand.const (Value.string { data := #[98] })), (2, Operand.const (Value.string { data := #[99] })), (3, Operand.const (Value.string { data := #[100] })), (4, Operand.const (Value.string { data := #[120] }))], type := 26, pos := "l14_draw.go:809", after := #[], guard := none }, { dst := some 32, op := Op.call { callee := Callee.value (Operand.func 50), args := #[Operand.tmp 30, Operand.tmp 31], argTypes := #[45, 26] }, type := 9, pos := "l14_draw.go:809", after := #[{ on := 1, ground := Ground.data }, { on := 2, ground := Ground.data }], guard := none }, { dst := some 33, op := Op.load 28 (Operand.tmp 7), type := 28, pos := "l14_draw.go:809", after := #[], guard := none }, { dst := some 34, op := Op.call { callee := Callee.value (Operand.func 49), args := #[Operand.tmp 29, Operand.tmp 32, Operand.tmp 33, Operand.const (Value.bool true)], argTypes := #[28, 9, 28, 4] }, type := 43, pos := "l14_draw.go:809", after := #[{ on := 0, ground := Ground.data }, { on := 3, ground := Ground.data }, { on := 4, ground := Ground.data }, { on := 3, ground := Ground.chain }], guard := none }, { dst := some 28, op := Op.move (Operand.tmp 34), type := 43, pos := "l14_draw.go:809", after := #[{ on := 5, ground := Ground.data }], guard := none }, { dst := some 35, op := Op.extract (Operand.tmp 28) 0, type := 28, pos := "l14_draw.go:809", after := #[{ on := 6, ground := Ground.data }], guard := none }, { dst := some 36, op := Op.extract (Operand.tmp 28) 1, type := 4, pos := "l14_draw.go:809", after := #[{ on := 6, ground := Ground.data }, { on := 9, ground := Ground.gcOnly Departure.lateStores }], guard := none }, { dst := none, op := Op.store 28 (Operand.tmp 5) (Operand.tmp 35), type := 0, pos := "l14_draw.go:809", after := #[{ on := 7, ground := Ground.data }, { on := 5, ground := Ground.chain }, { on := 0, ground := Ground.phase }, { on := 1, ground := Ground.phase }, { on := 2, ground := Ground.phase }, { on := 3, ground := Ground.phase }, { on := 4, ground := Ground.phase }, { on := 5, ground := Ground.phase }, { on := 6, ground := Ground.phase }, { on := 7, ground := Ground.phase }, { on := 8, ground := Ground.textOnly Departure.lateStores }], guard := none }] true) Q { tmps := (.pointer (some ⟨b, 0, none⟩) :: t1 :: t2 :: t3 :: t4 :: .pointer (some ⟨vb, 0, none⟩) :: t6 :: .pointer (some ⟨xb, 0, none⟩) :: t8 :: t9 :: t10 :: t11 :: t12 :: t13 :: t14 :: t15 :: t16 :: t17 :: t18 :: t19 :: t20 :: t21 :: t22 :: t23 :: t24 :: t25 :: t26 :: t27 :: t28 :: t29 :: t30 :: t31 :: t32 :: t33 :: t34 :: t35 :: t36 :: t37 :: []).toArray, defers := [] } W := by
  have hvl := World.block_lt_of_cell? W _ (hv 0 _ rfl).1
  have hbl := hR.lt
  have HO : Hid (∀ w', Otb b W w' → Row w' vb (six h0 av F.len c)) := fun w' h => hv.otb h hvb
  have HS : Hid (∀ w', Otb b W w' → Cells6 w' xb 0 h1 (.slice ag G.len cg)) := fun w' h => by
    have r := hx.otb h hxb
    exact ⟨(r 0 _ rfl).1, (r 1 _ rfl).1, (r 2 _ rfl).1, (r 3 _ rfl).1, (r 4 _ rfl).1, (r 5 _ rfl).1⟩
  have HV : Hid (∀ w', Otb b W w' → ValS B0 L M w' h0 av c F) := fun w' h => hval.otr (h.otr none) hbB (fun g hg => by cases hg)
  have HG : Hid (∀ w', Otb b W w' → ValS B1 Lg d w' h1 ag cg G) := fun w' h => hg.otr (h.otr none) (by omega) (fun g hg => by cases hg)
  have HR : Hid (Rd w0 B b a len cap p W.drew) := hR.below ((Below.refl _ _).drew)
  have hO := (Otb.refl b W).drew
  have HL : Hid (F.len = h0.ns.length) := hl
  have hS0 := HS.out _ hO
  clear hv hR hl hx hval hg
  refine wp_region_held_drew (S := fun w' => Cells6 w' xb 0 h1 (.slice ag G.len cg)) (by kernel_rfl) hS0 (fun _ => ?_)
  generalize W.drew = Wd at *
  refine wpAnyH_take (i := 1) (v := .pointer (some ⟨b, 0, none⟩)) rfl (by kernel_rfl) (by kernel_rfl) (by kernel_rfl) (fun _ _ _ h => hp _ _ _ _ _ h) (Or.inl ⟨by rfl, ?_⟩) (by assumption) ?_
  · intro w hSw
    (try dsimp only at hSw)
    go_simp
  (try simp only [Act.put, List.getElem_toArray, List.getElem_cons_zero, List.getElem_cons_succ, List.setIfInBounds_toArray, List.set_cons_zero, List.set_cons_succ])
  refine wpAnyH_take (i := 4) (v := valV h1 ag G.len cg) rfl (by kernel_rfl) (by kernel_rfl) (by kernel_rfl) (fun _ _ _ h => hp _ _ _ _ _ h) (Or.inl ⟨by rfl, ?_⟩) (by assumption) ?_
  · intro w hSw
    (try dsimp only at hSw)
    (obtain ⟨l0, l1, l2, l3, l4, l5⟩ := hSw; go_simp)
  (try simp only [Act.put, List.getElem_toArray, List.getElem_cons_zero, List.getElem_cons_succ, List.setIfInBounds_toArray, List.set_cons_zero, List.set_cons_succ])
  clear hS0
  refine wpAnyH_ready (rs := [0, 2]) (by kernel_rfl) (by simp) ?_
  refine AllReadyH.cons rfl (fun K hK => ?_) (AllReadyH.cons rfl (fun K hK => ?_) AllReadyH.nil)
  · skip
    have hrow := HO.out _ hO
    have l0 := (hrow 0 _ rfl).1
    have l1 := (hrow 1 _ rfl).1
    have l2 := (hrow 2 _ rfl).1
    have l3 := (hrow 3 _ rfl).1
    have l4 := (hrow 4 _ rfl).1
    have l5 := (hrow 5 _ rfl).1
    clear hrow
    go_simp
    refine hK.out _ _ (HS.out _ hO) (fun _ => ?_)
    clear hK K l0 l1 l2 l3 l4 l5
    (try simp only [Act.put, List.getElem_toArray, List.getElem_cons_zero, List.getElem_cons_succ, List.setIfInBounds_toArray, List.set_cons_zero, List.set_cons_succ])
    refine wpAnyH_ready (rs := [2]) (by kernel_rfl) (by simp) ?_
    refine AllReadyH.cons rfl (fun K hK => ?_) AllReadyH.nil
    go_simp
    have hO2 := hO.alloc (.cells #[.string ⟨#[97]⟩, .string ⟨#[98]⟩, .string ⟨#[99]⟩, .string ⟨#[100]⟩, .string ⟨#[120]⟩] 9)
    have hR2 := HR.out.below ((Below.refl _ Wd).alloc (Nat.le_refl _) (.cells #[.string ⟨#[97]⟩, .string ⟨#[98]⟩, .string ⟨#[99]⟩, .string ⟨#[100]⟩, .string ⟨#[120]⟩] 9))
    have hel : ∀ i, i < 5 → (Wd.alloc (.cells #[.string ⟨#[97]⟩, .string ⟨#[98]⟩, .string ⟨#[99]⟩, .string ⟨#[100]⟩, .string ⟨#[120]⟩] 9)).cell? ⟨Wd.heap.size, i, none⟩ = some (.string (fitFields.getD i default)) := by
      intro i hi
      have : i = 0 ∨ i = 1 ∨ i = 2 ∨ i = 3 ∨ i = 4 := by omega
      rcases this with rfl | rfl | rfl | rfl | rfl <;> simp [fitFields]
    have hnb : ¬ Wd.heap.size = b := by have := hO.1; omega
    refine hK.out _ _ (HS.out _ hO2) (fun _ => ?_)
    clear hK K hO
    obtain ⟨g1, hg1⟩ : ∃ g, Wd.heap.size = g := ⟨_, rfl⟩
    rw [hg1] at hel hnb ⊢
    generalize Wd.alloc (.cells #[.string ⟨#[97]⟩, .string ⟨#[98]⟩, .string ⟨#[99]⟩, .string ⟨#[100]⟩, .string ⟨#[120]⟩] 9) = w1 at *
    clear hg1
    have hO := hO2
    clear hO2 HR
    (try simp only [Act.put, List.getElem_toArray, List.getElem_cons_zero, List.getElem_cons_succ, List.setIfInBounds_toArray, List.set_cons_zero, List.set_cons_succ])
    refine wpAnyH_ready (rs := [3]) (by kernel_rfl) (by simp) ?_
    refine AllReadyH.cons rfl (fun K hK => ?_) AllReadyH.nil
    go_simp
    refine (of_any hR2 (by omega) g1 5 fitFields hnb rfl (by omega) (by omega) hel).mono ?_
    rintro r w2 ⟨⟨s, rfl, hsm⟩, hst⟩
    have hs10 := fitFields_size s hsm
    have hO2 := hO.stepped hst
    have hR3 := hR2.step hst
    clear hsm hst hel hnb hR2 hO
    have hO := hO2
    clear hO2
    go_wp2_with fail
    refine hK.out _ _ (HS.out _ hO) (fun _ => ?_)
    clear hK K
    refine wpAnyH_ready (rs := [5]) (by kernel_rfl) (by simp) ?_
    refine AllReadyH.cons rfl (fun K hK => ?_) AllReadyH.nil
    have hv3 := HV.out _ hO
    have hg3 := HG.out _ hO
    obtain ⟨i1, i2, i3⟩ := hv3.in
    have hL3 := hv3.1.2.1
    go_simp
    refine (l7Into_any h0 av c F s h1 ag cg G true w2 i1 i2 i3 HL.out (by omega)).mono ?_
    rintro r w4 ⟨hI, hb4⟩
    obtain ⟨h', a', c', F', ok', rfl, hv4, hl4⟩ := hv3.into HL.out hg3 hLg hB1 hs10 (by have := hO.1; omega) hI hb4
    have hO4 := hO.below hb4
    have hR5 := hR3.below hb4
    have hrow := HO.out _ hO4
    have HL4 : Hid (F'.len = h'.ns.length) := hl4
    clear hI hb4 hO hv3 hg3 i1 i2 i3 hR3 hl4
    go_wp2_with fail
    refine hK.out _ _ (HS.out _ hO4) (fun _ => ?_)
    clear hK K
    have hSw := HS.out _ hO4
    refine wpAnyH_take (i := 6) (v := .tuple #[valV h' a' F'.len c', .bool ok']) rfl (by kernel_rfl) (by kernel_rfl) (by kernel_rfl) (fun _ _ _ h => hp _ _ _ _ _ h) (Or.inl ⟨by rfl, ?_⟩) (by assumption) ?_
    · intro w hSw
      (try dsimp only at hSw)
      go_simp
    (try simp only [Act.put, List.getElem_toArray, List.getElem_cons_zero, List.getElem_cons_succ, List.setIfInBounds_toArray, List.set_cons_zero, List.set_cons_succ])
    refine wpAnyH_take (i := 7) (v := valV h' a' F'.len c') rfl (by kernel_rfl) (by kernel_rfl) (by kernel_rfl) (fun _ _ _ h => hp _ _ _ _ _ h) (Or.inl ⟨by rfl, ?_⟩) (by assumption) ?_
    · intro w hSw
      (try dsimp only at hSw)
      go_simp
    (try simp only [Act.put, List.getElem_toArray, List.getElem_cons_zero, List.getElem_cons_succ, List.setIfInBounds_toArray, List.set_cons_zero, List.set_cons_succ])
    refine wpAnyH_take (i := 8) (v := .bool ok') rfl (by kernel_rfl) (by kernel_rfl) (by kernel_rfl) (fun _ _ _ h => hp _ _ _ _ _ h) (Or.inl ⟨by rfl, ?_⟩) (by assumption) ?_
    · intro w hSw
      (try dsimp only at hSw)
      go_simp
    (try simp only [Act.put, List.getElem_toArray, List.getElem_cons_zero, List.getElem_cons_succ, List.setIfInBounds_toArray, List.set_cons_zero, List.set_cons_succ])
    obtain ⟨l0, f0⟩ := hrow 0 _ rfl
    obtain ⟨l1, f1⟩ := hrow 1 _ rfl
    obtain ⟨l2, f2⟩ := hrow 2 _ rfl
    obtain ⟨l3, f3⟩ := hrow 3 _ rfl
    obtain ⟨l4, f4⟩ := hrow 4 _ rfl
    obtain ⟨l5, f5⟩ := hrow 5 _ rfl
    clear hrow
    refine wpAnyH_ready (rs := [9]) (by kernel_rfl) (by simp) ?_
    refine AllReadyH.cons rfl (fun K hK => ?_) AllReadyH.nil
    go_simp
    refine hK.out _ _ ?_ (fun _ => ?_)
    · exact (HS.out _ hO4).mono fun o u hu => (put6_other (w := w4) (nb := vb) (o := 0) (v0 := .int .i64 h'.k) (v1 := .int .i64 h'.m) (v2 := .int .i64 h'.e) (v3 := .string h'.t) (v4 := .slice a' F'.len c') (v5 := .slice h'.na h'.ns.length h'.nc) (.inl hxv)).trans hu
    · refine wpAnyH_done (by kernel_rfl) ?_ _
      exact h _ _ _ _ _ _ _ _ _ _ _ _ _ _ hO4 hR5 hv4 HL4.out
  · skip
    go_simp
    have hO2 := hO.alloc (.cells #[.string ⟨#[97]⟩, .string ⟨#[98]⟩, .string ⟨#[99]⟩, .string ⟨#[100]⟩, .string ⟨#[120]⟩] 9)
    have hR2 := HR.out.below ((Below.refl _ Wd).alloc (Nat.le_refl _) (.cells #[.string ⟨#[97]⟩, .string ⟨#[98]⟩, .string ⟨#[99]⟩, .string ⟨#[100]⟩, .string ⟨#[120]⟩] 9))
    have hel : ∀ i, i < 5 → (Wd.alloc (.cells #[.string ⟨#[97]⟩, .string ⟨#[98]⟩, .string ⟨#[99]⟩, .string ⟨#[100]⟩, .string ⟨#[120]⟩] 9)).cell? ⟨Wd.heap.size, i, none⟩ = some (.string (fitFields.getD i default)) := by
      intro i hi
      have : i = 0 ∨ i = 1 ∨ i = 2 ∨ i = 3 ∨ i = 4 := by omega
      rcases this with rfl | rfl | rfl | rfl | rfl <;> simp [fitFields]
    have hnb : ¬ Wd.heap.size = b := by have := hO.1; omega
    refine hK.out _ _ (HS.out _ hO2) (fun _ => ?_)
    clear hK K hO
    obtain ⟨g1, hg1⟩ : ∃ g, Wd.heap.size = g := ⟨_, rfl⟩
    rw [hg1] at hel hnb ⊢
    generalize Wd.alloc (.cells #[.string ⟨#[97]⟩, .string ⟨#[98]⟩, .string ⟨#[99]⟩, .string ⟨#[100]⟩, .string ⟨#[120]⟩] 9) = w1 at *
    clear hg1
    have hO := hO2
    clear hO2 HR
    (try simp only [Act.put, List.getElem_toArray, List.getElem_cons_zero, List.getElem_cons_succ, List.setIfInBounds_toArray, List.set_cons_zero, List.set_cons_succ])
    refine wpAnyH_ready (rs := [0, 3]) (by kernel_rfl) (by simp) ?_
    refine AllReadyH.cons rfl (fun K hK => ?_) (AllReadyH.cons rfl (fun K hK => ?_) AllReadyH.nil)
    · skip
      have hrow := HO.out _ hO
      have l0 := (hrow 0 _ rfl).1
      have l1 := (hrow 1 _ rfl).1
      have l2 := (hrow 2 _ rfl).1
      have l3 := (hrow 3 _ rfl).1
      have l4 := (hrow 4 _ rfl).1
      have l5 := (hrow 5 _ rfl).1
      clear hrow
      go_simp
      refine hK.out _ _ (HS.out _ hO) (fun _ => ?_)
      clear hK K l0 l1 l2 l3 l4 l5
      (try simp only [Act.put, List.getElem_toArray, List.getElem_cons_zero, List.getElem_cons_succ, List.setIfInBounds_toArray, List.set_cons_zero, List.set_cons_succ])
      refine wpAnyH_ready (rs := [3]) (by kernel_rfl) (by simp) ?_
      refine AllReadyH.cons rfl (fun K hK => ?_) AllReadyH.nil
      go_simp
      refine (of_any hR2 (by omega) g1 5 fitFields hnb rfl (by omega) (by omega) hel).mono ?_
      rintro r w2 ⟨⟨s, rfl, hsm⟩, hst⟩
      have hs10 := fitFields_size s hsm
      have hO2 := hO.stepped hst
      have hR3 := hR2.step hst
      clear hsm hst hel hnb hR2 hO
      have hO := hO2
      clear hO2
      go_wp2_with fail
      refine hK.out _ _ (HS.out _ hO) (fun _ => ?_)
      clear hK K
      refine wpAnyH_ready (rs := [5]) (by kernel_rfl) (by simp) ?_
      refine AllReadyH.cons rfl (fun K hK => ?_) AllReadyH.nil
      have hv3 := HV.out _ hO
      have hg3 := HG.out _ hO
      obtain ⟨i1, i2, i3⟩ := hv3.in
      have hL3 := hv3.1.2.1
      go_simp
      refine (l7Into_any h0 av c F s h1 ag cg G true w2 i1 i2 i3 HL.out (by omega)).mono ?_
      rintro r w4 ⟨hI, hb4⟩
      obtain ⟨h', a', c', F', ok', rfl, hv4, hl4⟩ := hv3.into HL.out hg3 hLg hB1 hs10 (by have := hO.1; omega) hI hb4
      have hO4 := hO.below hb4
      have hR5 := hR3.below hb4
      have hrow := HO.out _ hO4
      have HL4 : Hid (F'.len = h'.ns.length) := hl4
      clear hI hb4 hO hv3 hg3 i1 i2 i3 hR3 hl4
      go_wp2_with fail
      refine hK.out _ _ (HS.out _ hO4) (fun _ => ?_)
      clear hK K
      have hSw := HS.out _ hO4
      refine wpAnyH_take (i := 6) (v := .tuple #[valV h' a' F'.len c', .bool ok']) rfl (by kernel_rfl) (by kernel_rfl) (by kernel_rfl) (fun _ _ _ h => hp _ _ _ _ _ h) (Or.inl ⟨by rfl, ?_⟩) (by assumption) ?_
      · intro w hSw
        (try dsimp only at hSw)
        go_simp
      (try simp only [Act.put, List.getElem_toArray, List.getElem_cons_zero, List.getElem_cons_succ, List.setIfInBounds_toArray, List.set_cons_zero, List.set_cons_succ])
      refine wpAnyH_take (i := 7) (v := valV h' a' F'.len c') rfl (by kernel_rfl) (by kernel_rfl) (by kernel_rfl) (fun _ _ _ h => hp _ _ _ _ _ h) (Or.inl ⟨by rfl, ?_⟩) (by assumption) ?_
      · intro w hSw
        (try dsimp only at hSw)
        go_simp
      (try simp only [Act.put, List.getElem_toArray, List.getElem_cons_zero, List.getElem_cons_succ, List.setIfInBounds_toArray, List.set_cons_zero, List.set_cons_succ])
      refine wpAnyH_take (i := 8) (v := .bool ok') rfl (by kernel_rfl) (by kernel_rfl) (by kernel_rfl) (fun _ _ _ h => hp _ _ _ _ _ h) (Or.inl ⟨by rfl, ?_⟩) (by assumption) ?_
      · intro w hSw
        (try dsimp only at hSw)
        go_simp
      (try simp only [Act.put, List.getElem_toArray, List.getElem_cons_zero, List.getElem_cons_succ, List.setIfInBounds_toArray, List.set_cons_zero, List.set_cons_succ])
      obtain ⟨l0, f0⟩ := hrow 0 _ rfl
      obtain ⟨l1, f1⟩ := hrow 1 _ rfl
      obtain ⟨l2, f2⟩ := hrow 2 _ rfl
      obtain ⟨l3, f3⟩ := hrow 3 _ rfl
      obtain ⟨l4, f4⟩ := hrow 4 _ rfl
      obtain ⟨l5, f5⟩ := hrow 5 _ rfl
      clear hrow
      refine wpAnyH_ready (rs := [9]) (by kernel_rfl) (by simp) ?_
      refine AllReadyH.cons rfl (fun K hK => ?_) AllReadyH.nil
      go_simp
      refine hK.out _ _ ?_ (fun _ => ?_)
      · exact (HS.out _ hO4).mono fun o u hu => (put6_other (w := w4) (nb := vb) (o := 0) (v0 := .int .i64 h'.k) (v1 := .int .i64 h'.m) (v2 := .int .i64 h'.e) (v3 := .string h'.t) (v4 := .slice a' F'.len c') (v5 := .slice h'.na h'.ns.length h'.nc) (.inl hxv)).trans hu
      · refine wpAnyH_done (by kernel_rfl) ?_ _
        exact h _ _ _ _ _ _ _ _ _ _ _ _ _ _ hO4 hR5 hv4 HL4.out
    · skip
      go_simp
      refine (of_any hR2 (by omega) g1 5 fitFields hnb rfl (by omega) (by omega) hel).mono ?_
      rintro r w2 ⟨⟨s, rfl, hsm⟩, hst⟩
      have hs10 := fitFields_size s hsm
      have hO2 := hO.stepped hst
      have hR3 := hR2.step hst
      clear hsm hst hel hnb hR2 hO
      have hO := hO2
      clear hO2
      go_wp2_with fail
      refine hK.out _ _ (HS.out _ hO) (fun _ => ?_)
      clear hK K
      refine wpAnyH_ready (rs := [0]) (by kernel_rfl) (by simp) ?_
      refine AllReadyH.cons rfl (fun K hK => ?_) AllReadyH.nil
      have hrow := HO.out _ hO
      have l0 := (hrow 0 _ rfl).1
      have l1 := (hrow 1 _ rfl).1
      have l2 := (hrow 2 _ rfl).1
      have l3 := (hrow 3 _ rfl).1
      have l4 := (hrow 4 _ rfl).1
      have l5 := (hrow 5 _ rfl).1
      clear hrow
      go_simp
      refine hK.out _ _ (HS.out _ hO) (fun _ => ?_)
      clear hK K l0 l1 l2 l3 l4 l5
      (try simp only [Act.put, List.getElem_toArray, List.getElem_cons_zero, List.getElem_cons_succ, List.setIfInBounds_toArray, List.set_cons_zero, List.set_cons_succ])
      refine wpAnyH_ready (rs := [5]) (by kernel_rfl) (by simp) ?_
      refine AllReadyH.cons rfl (fun K hK => ?_) AllReadyH.nil
      have hv3 := HV.out _ hO
      have hg3 := HG.out _ hO
      obtain ⟨i1, i2, i3⟩ := hv3.in
      have hL3 := hv3.1.2.1
      go_simp
      refine (l7Into_any h0 av c F s h1 ag cg G true w2 i1 i2 i3 HL.out (by omega)).mono ?_
      rintro r w4 ⟨hI, hb4⟩
      obtain ⟨h', a', c', F', ok', rfl, hv4, hl4⟩ := hv3.into HL.out hg3 hLg hB1 hs10 (by have := hO.1; omega) hI hb4
      have hO4 := hO.below hb4
      have hR5 := hR3.below hb4
      have hrow := HO.out _ hO4
      have HL4 : Hid (F'.len = h'.ns.length) := hl4
      clear hI hb4 hO hv3 hg3 i1 i2 i3 hR3 hl4
      go_wp2_with fail
      refine hK.out _ _ (HS.out _ hO4) (fun _ => ?_)
      clear hK K
      have hSw := HS.out _ hO4
      refine wpAnyH_take (i := 6) (v := .tuple #[valV h' a' F'.len c', .bool ok']) rfl (by kernel_rfl) (by kernel_rfl) (by kernel_rfl) (fun _ _ _ h => hp _ _ _ _ _ h) (Or.inl ⟨by rfl, ?_⟩) (by assumption) ?_
      · intro w hSw
        (try dsimp only at hSw)
        go_simp
      (try simp only [Act.put, List.getElem_toArray, List.getElem_cons_zero, List.getElem_cons_succ, List.setIfInBounds_toArray, List.set_cons_zero, List.set_cons_succ])
      refine wpAnyH_take (i := 7) (v := valV h' a' F'.len c') rfl (by kernel_rfl) (by kernel_rfl) (by kernel_rfl) (fun _ _ _ h => hp _ _ _ _ _ h) (Or.inl ⟨by rfl, ?_⟩) (by assumption) ?_
      · intro w hSw
        (try dsimp only at hSw)
        go_simp
      (try simp only [Act.put, List.getElem_toArray, List.getElem_cons_zero, List.getElem_cons_succ, List.setIfInBounds_toArray, List.set_cons_zero, List.set_cons_succ])
      refine wpAnyH_take (i := 8) (v := .bool ok') rfl (by kernel_rfl) (by kernel_rfl) (by kernel_rfl) (fun _ _ _ h => hp _ _ _ _ _ h) (Or.inl ⟨by rfl, ?_⟩) (by assumption) ?_
      · intro w hSw
        (try dsimp only at hSw)
        go_simp
      (try simp only [Act.put, List.getElem_toArray, List.getElem_cons_zero, List.getElem_cons_succ, List.setIfInBounds_toArray, List.set_cons_zero, List.set_cons_succ])
      obtain ⟨l0, f0⟩ := hrow 0 _ rfl
      obtain ⟨l1, f1⟩ := hrow 1 _ rfl
      obtain ⟨l2, f2⟩ := hrow 2 _ rfl
      obtain ⟨l3, f3⟩ := hrow 3 _ rfl
      obtain ⟨l4, f4⟩ := hrow 4 _ rfl
      obtain ⟨l5, f5⟩ := hrow 5 _ rfl
      clear hrow
      refine wpAnyH_ready (rs := [9]) (by kernel_rfl) (by simp) ?_
      refine AllReadyH.cons rfl (fun K hK => ?_) AllReadyH.nil
      go_simp
      refine hK.out _ _ ?_ (fun _ => ?_)
      · exact (HS.out _ hO4).mono fun o u hu => (put6_other (w := w4) (nb := vb) (o := 0) (v0 := .int .i64 h'.k) (v1 := .int .i64 h'.m) (v2 := .int .i64 h'.e) (v3 := .string h'.t) (v4 := .slice a' F'.len c') (v5 := .slice h'.na h'.ns.length h'.nc) (.inl hxv)).trans hu
      · refine wpAnyH_done (by kernel_rfl) ?_ _
        exact h _ _ _ _ _ _ _ _ _ _ _ _ _ _ hO4 hR5 hv4 HL4.out
end Go.Proofs.Ytfgchdnpbbgmjaa
/- Drawn values: l14Fits. -/
namespace Go.Proofs.Ytfgchdnpbbgmjaa
open Go.RowKit
attribute [local go_sem] cell_alloc_is frozen_alloc_is
theorem szF2 : szF 2 = 6 := rfl
theorem pkF2 : pkF 2 = 304 := rfl
theorem szT_ge : ∀ d, 28 ≤ szT d := by
  intro d
  induction d with
  | zero => exact Nat.le_refl _
  | succ d ih => show 28 ≤ 4 * (szT d + 1); omega

set_option maxRecDepth 100000 in
set_option maxHeartbeats 1000000 in
theorem l14Fits_zero {w0 : World} {B b : Nat} {a : Option Addr} {len cap : Nat} : FitsC w0 B b a len cap 0 := by
  intro p W hR hp
  have hp1 : p + 1 + 4 * 306 ≤ 60000 := by have : p + ((1300 : Nat) : Int) ≤ 60000 := hp; omega
  have hpe : p + 1 + 4 * 306 ≤ p + pkT 0 := by show _ ≤ p + ((1300 : Nat) : Int); omega
  have hse : 4 * (6 + 1) ≤ szT 0 := by decide
  clear hp
  have hlt := hR.lt
  have hne : ¬ W.heap.size = b := by omega
  have Z0 : Row (W.alloc (.cells #[.int .i64 0, .int .i64 0, .int .i64 0, .string ⟨#[]⟩, .slice none 0 0, .slice none 0 0] 28)) W.heap.size zero6 := Row.new W zero6 28
  have R0 := hR.below ((Below.refl _ W).alloc (Nat.le_refl _) (.cells #[.int .i64 0, .int .i64 0, .int .i64 0, .string ⟨#[]⟩, .slice none 0 0, .slice none 0 0] 28))
  have O0 := (Otb.refl b W).alloc (.cells #[.int .i64 0, .int .i64 0, .int .i64 0, .string ⟨#[]⟩, .slice none 0 0, .slice none 0 0] 28)
  have hz0 : W.heap.size < (W.alloc (.cells #[.int .i64 0, .int .i64 0, .int .i64 0, .string ⟨#[]⟩, .slice none 0 0, .slice none 0 0] 28)).heap.size := by simp
  clear hR
  obtain ⟨W1, hW1⟩ : ∃ W1, W1 = W.alloc (.cells #[.int .i64 0, .int .i64 0, .int .i64 0, .string ⟨#[]⟩, .slice none 0 0, .slice none 0 0] 28) := ⟨_, rfl⟩
  rw [← hW1] at Z0 R0 O0 hz0
  have hbW : Below W1.heap.size W1 (W1.alloc (.cells #[.int .i64 6, .int .i64 0, .int .i64 0, .string ⟨#[]⟩, .slice none 0 0, .slice none 0 0] 28)) := (Below.refl _ _).alloc (Nat.le_refl _) _
  have V3 : Row (W1.alloc (.cells #[.int .i64 6, .int .i64 0, .int .i64 0, .string ⟨#[]⟩, .slice none 0 0, .slice none 0 0] 28)) W1.heap.size (six (hdK 6) none Vo.nil.len 0) := Row.new W1 _ _
  have Z3 := Z0.below hbW hz0
  have R3 := R0.below hbW
  have O3 := O0.below hbW
  have hz3 : W1.heap.size < (W1.alloc (.cells #[.int .i64 6, .int .i64 0, .int .i64 0, .string ⟨#[]⟩, .slice none 0 0, .slice none 0 0] 28)).heap.size := by simp
  clear Z0 R0 O0 hbW
  obtain ⟨W3, hW3⟩ : ∃ W3, W3 = W1.alloc (.cells #[.int .i64 6, .int .i64 0, .int .i64 0, .string ⟨#[]⟩, .slice none 0 0, .slice none 0 0] 28) := ⟨_, rfl⟩
  rw [← hW3] at V3 Z3 R3 O3 hz3
  obtain ⟨vb, hvb⟩ : ∃ vb, W1.heap.size = vb := ⟨_, rfl⟩
  rw [hvb] at V3 hz3 hz0
  have hvb1 : W1.heap.size = vb := hvb
  clear hvb
  have HW3 : Hid (W3 = (W.alloc (.cells #[.int .i64 0, .int .i64 0, .int .i64 0, .string ⟨#[]⟩, .slice none 0 0, .slice none 0 0] 28)).alloc (.cells #[.int .i64 6, .int .i64 0, .int .i64 0, .string ⟨#[]⟩, .slice none 0 0, .slice none 0 0] 28)) := by unfold Hid; rw [← hW1]; exact hW3
  have HVB : Hid (W.heap.size + 1 = vb) := by unfold Hid; rw [← hvb1, hW1]; simp
  clear hW1 hW3 hvb1
  go_enter Try.func21, Try.ntmps21
  go_wp2_with fail
  rw [← HW3.out, HVB.out]
  clear HW3
  refine (pick_any 5 R3 (by omega) (by omega) (by omega)).mono ?_
  rintro r w4 ⟨⟨n, rfl, n0, n1⟩, s4⟩
  have hvb2 : ¬ vb = b := by omega
  have hbB : b < W.heap.size + 1 := by omega
  have R4 := R3.step s4
  have V4 : Row w4 vb (six (hdK 6) none Vo.nil.len 0) := Row.otb ((Otb.refl b W3).stepped s4) hvb2 V3
  have Z4 : Row w4 W.heap.size zero6 := Row.otb ((Otb.refl b W3).stepped s4) hne Z3
  have O4 := O3.stepped s4
  have hz4 : vb < w4.heap.size := by rw [s4.other.2.2]; exact hz3
  have hWv : W.heap.size < vb := hz0
  have HWv : Hid (W.heap.size < vb) := hWv
  clear V3 Z3 R3 O3 s4 hz3 hz0 hWv HVB
  obtain ⟨n, rfl⟩ := Int.eq_ofNat_of_zero_le n0
  go_wp2_with fail
  go_loopw [6] (fun i wr => ∃ (n L : Nat) (h : Hd) (F : Vo) (av : Option Addr) (c : Nat) (q : Int), i = .int .i64 n ∧ L + n ≤ 4 ∧ q + ((n * 306 : Nat) : Int) ≤ p + 1 + 4 * 306 ∧ (Row wr vb (six h av F.len c) ∧ Row wr W.heap.size zero6 ∧ ValS (vb + 1) L (L * (6 + 1)) wr h av c F ∧ F.len = h.ns.length ∧ Rd w0 B b a len cap q wr ∧ Otb b W wr ∧ vb < wr.heap.size)) (fun i _ => (intOf i).toNat)
  case atStart =>
    refine ⟨n, 0, hdK 6, .nil, none, 0, _, rfl, by omega, ?_, V4, Z4, ValS.blank (Nat.zero_le _), rfl, R4, O4, hz4⟩
    have : n * 306 ≤ 4 * 306 := Nat.mul_le_mul_right _ (by omega)
    omega
  case round =>
    clear V4 Z4 R4 O4 hz4 n0 n1
    obtain ⟨n, L, h0, F, av, c, q, rfl, hFn, hqn, hV, hZ, hS, hl, hR, hO, hz⟩ := hrel
    have HF : Hid (L + n ≤ 4 ∧ q + ((n * 306 : Nat) : Int) ≤ p + 1 + 4 * 306) := ⟨hFn, hqn⟩
    have HL : Hid (F.len = h0.ns.length) := hl
    clear hFn hqn hl
    by_cases hn : 0 < n
    · obtain ⟨m, rfl⟩ : ∃ m, n = m + 1 := ⟨n - 1, by omega⟩
      have hn2 : (0 : Int) < (((m + 1 : Nat)) : Int) := by omega
      have hmul : (m + 1) * 306 = m * 306 + 306 := Nat.succ_mul _ _
      have hq2 : q + 306 ≤ 60000 := by have := HF.out.2; rw [hmul] at this; omega
      have HQ : Hid (q + 306 + ((m * 306 : Nat) : Int) ≤ p + 1 + 4 * 306) := by have := HF.out.2; rw [hmul] at this; unfold Hid; omega
      clear hmul
      have hL3 : L + (m + 1) ≤ 4 := HF.out.1
      have hb2 := hR.base_leU
      go_wp2_with fail
      refine (l14Flat_any 2 (by omega) q wr hR (by rw [pkF2]; omega)).mono ?_
      rintro r w5 ⟨h1, G, ag, cg, p1, rfl, hg, hp1', R5, O5⟩
      rw [pkF2] at hp1'
      rw [szF2] at hg
      have V5 := hV.otb O5 hvb2
      have Z5 := hZ.otb O5 hne
      have S5 := hS.otr (O5.otr none) (by have := HWv.out; omega) (fun g hg => by cases hg)
      have hge5 : wr.heap.size ≤ w5.heap.size := O5.1
      have Ow5 := hO.trans O5
      clear hV hZ hS hR hO O5
      have hbW : Below w5.heap.size w5 (w5.alloc (.cells #[.int .i64 h1.k, .int .i64 h1.m, .int .i64 h1.e, .string h1.t, .slice ag G.len cg, .slice h1.na h1.ns.length h1.nc] 28)) := (Below.refl _ _).alloc (Nat.le_refl _) _
      have hv5 : vb < w5.heap.size := Nat.lt_of_lt_of_le hz hge5
      have X6 : Row (w5.alloc (.cells #[.int .i64 h1.k, .int .i64 h1.m, .int .i64 h1.e, .string h1.t, .slice ag G.len cg, .slice h1.na h1.ns.length h1.nc] 28)) w5.heap.size (six h1 ag G.len cg) := Row.new w5 _ _
      have V6 := V5.below hbW hv5
      have Z6 := Z5.below hbW (by have := HWv.out; omega)
      have S6 := S5.below hbW
      have G6 := hg.below hbW
      have R6 := R5.below hbW
      have O6 := Ow5.below hbW
      have hz6 : w5.heap.size < (w5.alloc (.cells #[.int .i64 h1.k, .int .i64 h1.m, .int .i64 h1.e, .string h1.t, .slice ag G.len cg, .slice h1.na h1.ns.length h1.nc] 28)).heap.size := by simp
      clear V5 Z5 S5 hg R5 Ow5 hbW
      go_wp2_with fail
      obtain ⟨xb, hxb⟩ : ∃ xb, w5.heap.size = xb := ⟨_, rfl⟩
      rw [hxb] at X6 hz6 hv5 hge5
      (try rw [hxb])
      generalize w5.alloc (.cells #[.int .i64 h1.k, .int .i64 h1.m, .int .i64 h1.e, .string h1.t, .slice ag G.len cg, .slice h1.na h1.ns.length h1.nc] 28) = w6 at *
      clear hxb
      refine uf8 (xb := xb) (B0 := vb + 1) R6 (by omega) hvb2 (by have := HWv.out; omega) (by omega) (by have := HWv.out; omega) (by omega) V6 X6 S6 G6 (by omega) (by omega) HL.out (by omega) (fun _ d _ _ _ h => by cases d <;> exact h) ?_
      intro ws h' a' c' F' v28 v29 v30 v31 v32 v33 v34 v35 v36 hOt hR1 hS1 hl1
      have hP := Otr.put6 b (j := vb) (o := 0) ws (.int .i64 h'.k) (.int .i64 h'.m) (.int .i64 h'.e) (.string h'.t) (.slice a' F'.len c') (.slice h'.na h'.ns.length h'.nc)
      have hWv := HWv.out
      have hb6 := hR1.base_leU
      have hS2 := hS1.otr hP (by omega) (fun g hg => by cases hg; omega)
      have hV2 : Row (put6 ws vb 0 (.int .i64 h'.k) (.int .i64 h'.m) (.int .i64 h'.e) (.string h'.t) (.slice a' F'.len c') (.slice h'.na h'.ns.length h'.nc)) vb (six h' a' F'.len c') := Row.put6 (Row.otb hOt hvb2 V6)
      have hZ2 := hP.row hne (fun e => by cases e; omega) (Row.otb hOt hne Z6)
      have hR2 : Rd w0 B b a len cap (p1 + 1) _ := hR1.uptoU (put6_below (B := vb) (nb := vb) (o := 0) (Below.refl _ ws) (Nat.le_refl _) (.int .i64 h'.k) (.int .i64 h'.m) (.int .i64 h'.e) (.string h'.t) (.slice a' F'.len c') (.slice h'.na h'.ns.length h'.nc)) (by omega) (by omega)
      have hO2 : Otb b W _ := (O6.trans hOt).upto (put6_below (B := W.heap.size) (nb := vb) (o := 0) (Below.refl _ ws) (by omega) (.int .i64 h'.k) (.int .i64 h'.m) (.int .i64 h'.e) (.string h'.t) (.slice a' F'.len c') (.slice h'.na h'.ns.length h'.nc))
      have hz2 : vb < (put6 ws vb 0 (.int .i64 h'.k) (.int .i64 h'.m) (.int .i64 h'.e) (.string h'.t) (.slice a' F'.len c') (.slice h'.na h'.ns.length h'.nc)).heap.size := by have h1 := hOt.1; have h2 := hP.1; omega
      generalize put6 ws vb 0 (.int .i64 h'.k) (.int .i64 h'.m) (.int .i64 h'.e) (.string h'.t) (.slice a' F'.len c') (.slice h'.na h'.ns.length h'.nc) = wn at *
      have hL1 : L + 1 ≤ 4 := by omega
      have HN : Hid (Row wn vb (six h' a' F'.len c') ∧ Row wn W.heap.size zero6 ∧ ValS (vb + 1) (L + 1) ((L + 1) * (6 + 1)) wn h' a' c' F' ∧ F'.len = h'.ns.length ∧ Rd w0 B b a len cap (p1 + 1) wn ∧ Otb b W wn ∧ vb < wn.heap.size) := ⟨hV2, hZ2, hS2.mono (Nat.le_refl _) (Nat.le_refl _) (by rw [Nat.succ_mul]; omega), hl1, hR2, hO2, hz2⟩
      clear V6 Z6 X6 S6 G6 R6 O6 hOt hR1 hS1 hP hS2 hV2 hZ2 hR2 hO2 hz2 hl1 hWv hb6
      have hm3 : m ≤ 3 := by omega
      go_wp2_with fail
      refine ⟨?_, ?_⟩
      · obtain ⟨n1, n2, n3, n4, n5, n6, n7⟩ := HN.out
        exact ⟨m, L + 1, h', F', a', c', _, rfl, by omega, by have := HQ.out; omega, n1, n2, n3, n4, n5, n6, n7⟩
      · simp [intOf]
    · have hn0 : n = 0 := by omega
      have hn2 : ¬ (0 : Int) < (n : Int) := by omega
      obtain ⟨e1, e2⟩ := HF.out
      have hL4 : L ≤ 4 := by omega
      have hM : L * (6 + 1) ≤ 4 * (6 + 1) := Nat.mul_le_mul_right _ hL4
      have hqe : q ≤ p + pkT 0 := by subst hn0; omega
      obtain ⟨r0, g0⟩ := hZ 0 _ rfl
      obtain ⟨r1, g1⟩ := hZ 1 _ rfl
      obtain ⟨r2, g2⟩ := hZ 2 _ rfl
      obtain ⟨r3, g3⟩ := hZ 3 _ rfl
      obtain ⟨r4, g4⟩ := hZ 4 _ rfl
      obtain ⟨r5, g5⟩ := hZ 5 _ rfl
      have s0 := (hV 0 _ rfl).1
      have s1 := (hV 1 _ rfl).1
      have s2 := (hV 2 _ rfl).1
      have s3 := (hV 3 _ rfl).1
      have s4 := (hV 4 _ rfl).1
      have s5 := (hV 5 _ rfl).1
      have HP6 := Row.put6 (v0 := .int .i64 h0.k) (v1 := .int .i64 h0.m) (v2 := .int .i64 h0.e) (v3 := .string h0.t) (v4 := .slice av F.len c) (v5 := .slice h0.na h0.ns.length h0.nc) hZ
      have HO6 := Otr.put6 b (j := W.heap.size) (o := 0) wr (.int .i64 h0.k) (.int .i64 h0.m) (.int .i64 h0.e) (.string h0.t) (.slice av F.len c) (.slice h0.na h0.ns.length h0.nc)
      have hb9 := hR.base_leU
      have hWv := HWv.out
      have S10 := (hS.otr HO6 (by omega) (fun g hg => by cases hg; omega)).mono (B1 := W.heap.size) (L' := 4) (M' := szT 0) (by omega) hL4 (Nat.le_trans hM hse)
      have R10 := hR.uptoU (put6_below (B := W.heap.size) (nb := W.heap.size) (o := 0) (Below.refl _ wr) (Nat.le_refl _) (.int .i64 h0.k) (.int .i64 h0.m) (.int .i64 h0.e) (.string h0.t) (.slice av F.len c) (.slice h0.na h0.ns.length h0.nc)) hlt (by omega)
      have O10 := hO.upto (put6_below (B := W.heap.size) (nb := W.heap.size) (o := 0) (Below.refl _ wr) (Nat.le_refl _) (.int .i64 h0.k) (.int .i64 h0.m) (.int .i64 h0.e) (.string h0.t) (.slice av F.len c) (.slice h0.na h0.ns.length h0.nc))
      have HS10 : Hid (ValS W.heap.size 4 (szT 0) (put6 wr W.heap.size 0 (.int .i64 h0.k) (.int .i64 h0.m) (.int .i64 h0.e) (.string h0.t) (.slice av F.len c) (.slice h0.na h0.ns.length h0.nc)) h0 av c F ∧ Rd w0 B b a len cap q (put6 wr W.heap.size 0 (.int .i64 h0.k) (.int .i64 h0.m) (.int .i64 h0.e) (.string h0.t) (.slice av F.len c) (.slice h0.na h0.ns.length h0.nc)) ∧ Otb b W (put6 wr W.heap.size 0 (.int .i64 h0.k) (.int .i64 h0.m) (.int .i64 h0.e) (.string h0.t) (.slice av F.len c) (.slice h0.na h0.ns.length h0.nc))) := ⟨S10, R10, O10⟩
      clear hV hZ hS hR hO HO6 S10 R10 O10 e1 e2 hM HF hn0 hn HL hWv
      go_wp2_with fail
      show bodyPost Try.prog Try.f21 _ Exit.ret _ (put6 wr W.heap.size 0 (.int .i64 h0.k) (.int .i64 h0.m) (.int .i64 h0.e) (.string h0.t) (.slice av F.len c) (.slice h0.na h0.ns.length h0.nc))
      generalize put6 wr W.heap.size 0 (.int .i64 h0.k) (.int .i64 h0.m) (.int .i64 h0.e) (.string h0.t) (.slice av F.len c) (.slice h0.na h0.ns.length h0.nc) = W6 at *
      have y0 := (HP6 0 _ rfl).1
      have y1 := (HP6 1 _ rfl).1
      have y2 := (HP6 2 _ rfl).1
      have y3 := (HP6 3 _ rfl).1
      have y4 := (HP6 4 _ rfl).1
      have y5 := (HP6 5 _ rfl).1
      obtain ⟨z1, z2, z3⟩ := HS10.out
      refine bodyPost_ret (v := valV h0 av F.len c) (by simp [results, Try.results21, go_sem, y0, y1, y2, y3, y4, y5]) rfl (by first | exact ⟨h0, F, av, c, _, rfl, z1, hqe, z2, z3⟩ | exact ⟨h0, F, av, c, rfl, z1, _, hqe, z2, z3⟩)
set_option maxRecDepth 100000 in
set_option maxHeartbeats 1000000 in
theorem l14Fits_next {w0 : World} {B b : Nat} {a : Option Addr} {len cap d : Nat} (hd : d ≤ 900) (H : FitsC w0 B b a len cap d) : FitsC w0 B b a len cap (d + 1) := by
  intro p W hR hp
  obtain ⟨D, hD⟩ : ∃ D : Int, D = (d : Int) + 1 := ⟨_, rfl⟩
  have hd0 : 0 < D := by omega
  have hd1 : D ≤ 1000 := by omega
  have HDD : Hid (D = (d : Int) + 1) := hD
  rw [show ((((d + 1 : Nat)) : Int)) = D by omega]
  clear hD
  have HP : Hid (pkT (d + 1) = 1300 + 4 * (pkT d + 5)) := rfl
  have hp1 : p + 1 + 4 * (pkT d + 311) ≤ 60000 := by have := HP.out; omega
  have HH : Hid (FitsC w0 B b a len cap d) := H
  have hpe : p + 1 + 4 * (pkT d + 311) ≤ p + pkT (d + 1) := by have := HP.out; omega
  have hse : 4 * (szT d + 1) ≤ szT (d + 1) := Nat.le_refl _
  have hs28 := szT_ge d
  clear hp H
  have hlt := hR.lt
  have hne : ¬ W.heap.size = b := by omega
  have Z0 : Row (W.alloc (.cells #[.int .i64 0, .int .i64 0, .int .i64 0, .string ⟨#[]⟩, .slice none 0 0, .slice none 0 0] 28)) W.heap.size zero6 := Row.new W zero6 28
  have R0 := hR.below ((Below.refl _ W).alloc (Nat.le_refl _) (.cells #[.int .i64 0, .int .i64 0, .int .i64 0, .string ⟨#[]⟩, .slice none 0 0, .slice none 0 0] 28))
  have O0 := (Otb.refl b W).alloc (.cells #[.int .i64 0, .int .i64 0, .int .i64 0, .string ⟨#[]⟩, .slice none 0 0, .slice none 0 0] 28)
  have hz0 : W.heap.size < (W.alloc (.cells #[.int .i64 0, .int .i64 0, .int .i64 0, .string ⟨#[]⟩, .slice none 0 0, .slice none 0 0] 28)).heap.size := by simp
  clear hR
  obtain ⟨W1, hW1⟩ : ∃ W1, W1 = W.alloc (.cells #[.int .i64 0, .int .i64 0, .int .i64 0, .string ⟨#[]⟩, .slice none 0 0, .slice none 0 0] 28) := ⟨_, rfl⟩
  rw [← hW1] at Z0 R0 O0 hz0
  have hbW : Below W1.heap.size W1 (W1.alloc (.cells #[.int .i64 6, .int .i64 0, .int .i64 0, .string ⟨#[]⟩, .slice none 0 0, .slice none 0 0] 28)) := (Below.refl _ _).alloc (Nat.le_refl _) _
  have V3 : Row (W1.alloc (.cells #[.int .i64 6, .int .i64 0, .int .i64 0, .string ⟨#[]⟩, .slice none 0 0, .slice none 0 0] 28)) W1.heap.size (six (hdK 6) none Vo.nil.len 0) := Row.new W1 _ _
  have Z3 := Z0.below hbW hz0
  have R3 := R0.below hbW
  have O3 := O0.below hbW
  have hz3 : W1.heap.size < (W1.alloc (.cells #[.int .i64 6, .int .i64 0, .int .i64 0, .string ⟨#[]⟩, .slice none 0 0, .slice none 0 0] 28)).heap.size := by simp
  clear Z0 R0 O0 hbW
  obtain ⟨W3, hW3⟩ : ∃ W3, W3 = W1.alloc (.cells #[.int .i64 6, .int .i64 0, .int .i64 0, .string ⟨#[]⟩, .slice none 0 0, .slice none 0 0] 28) := ⟨_, rfl⟩
  rw [← hW3] at V3 Z3 R3 O3 hz3
  obtain ⟨vb, hvb⟩ : ∃ vb, W1.heap.size = vb := ⟨_, rfl⟩
  rw [hvb] at V3 hz3 hz0
  have hvb1 : W1.heap.size = vb := hvb
  clear hvb
  have HW3 : Hid (W3 = (W.alloc (.cells #[.int .i64 0, .int .i64 0, .int .i64 0, .string ⟨#[]⟩, .slice none 0 0, .slice none 0 0] 28)).alloc (.cells #[.int .i64 6, .int .i64 0, .int .i64 0, .string ⟨#[]⟩, .slice none 0 0, .slice none 0 0] 28)) := by unfold Hid; rw [← hW1]; exact hW3
  have HVB : Hid (W.heap.size + 1 = vb) := by unfold Hid; rw [← hvb1, hW1]; simp
  clear hW1 hW3 hvb1
  go_enter Try.func21, Try.ntmps21
  go_wp2_with fail
  rw [← HW3.out, HVB.out]
  clear HW3
  refine (pick_any 5 R3 (by omega) (by omega) (by omega)).mono ?_
  rintro r w4 ⟨⟨n, rfl, n0, n1⟩, s4⟩
  have hvb2 : ¬ vb = b := by omega
  have hbB : b < W.heap.size + 1 := by omega
  have R4 := R3.step s4
  have V4 : Row w4 vb (six (hdK 6) none Vo.nil.len 0) := Row.otb ((Otb.refl b W3).stepped s4) hvb2 V3
  have Z4 : Row w4 W.heap.size zero6 := Row.otb ((Otb.refl b W3).stepped s4) hne Z3
  have O4 := O3.stepped s4
  have hz4 : vb < w4.heap.size := by rw [s4.other.2.2]; exact hz3
  have hWv : W.heap.size < vb := hz0
  have HWv : Hid (W.heap.size < vb) := hWv
  clear V3 Z3 R3 O3 s4 hz3 hz0 hWv HVB
  obtain ⟨n, rfl⟩ := Int.eq_ofNat_of_zero_le n0
  go_wp2_with fail
  go_loopw [6] (fun i wr => ∃ (n L : Nat) (h : Hd) (F : Vo) (av : Option Addr) (c : Nat) (q : Int), i = .int .i64 n ∧ L + n ≤ 4 ∧ q + ((n * (pkT d + 311) : Nat) : Int) ≤ p + 1 + 4 * (pkT d + 311) ∧ (Row wr vb (six h av F.len c) ∧ Row wr W.heap.size zero6 ∧ ValS (vb + 1) L (L * ((szT d) + 1)) wr h av c F ∧ F.len = h.ns.length ∧ Rd w0 B b a len cap q wr ∧ Otb b W wr ∧ vb < wr.heap.size)) (fun i _ => (intOf i).toNat)
  case atStart =>
    refine ⟨n, 0, hdK 6, .nil, none, 0, _, rfl, by omega, ?_, V4, Z4, ValS.blank (Nat.zero_le _), rfl, R4, O4, hz4⟩
    have : n * (pkT d + 311) ≤ 4 * (pkT d + 311) := Nat.mul_le_mul_right _ (by omega)
    omega
  case round =>
    clear V4 Z4 R4 O4 hz4 n0 n1
    obtain ⟨n, L, h0, F, av, c, q, rfl, hFn, hqn, hV, hZ, hS, hl, hR, hO, hz⟩ := hrel
    have HF : Hid (L + n ≤ 4 ∧ q + ((n * (pkT d + 311) : Nat) : Int) ≤ p + 1 + 4 * (pkT d + 311)) := ⟨hFn, hqn⟩
    have HL : Hid (F.len = h0.ns.length) := hl
    clear hFn hqn hl
    by_cases hn : 0 < n
    · obtain ⟨m, rfl⟩ : ∃ m, n = m + 1 := ⟨n - 1, by omega⟩
      have hn2 : (0 : Int) < (((m + 1 : Nat)) : Int) := by omega
      have hmul : (m + 1) * (pkT d + 311) = m * (pkT d + 311) + (pkT d + 311) := Nat.succ_mul _ _
      have hq2 : q + (pkT d + 311) ≤ 60000 := by have := HF.out.2; rw [hmul] at this; omega
      have HQ : Hid (q + (pkT d + 311) + ((m * (pkT d + 311) : Nat) : Int) ≤ p + 1 + 4 * (pkT d + 311)) := by have := HF.out.2; rw [hmul] at this; unfold Hid; omega
      clear hmul
      have hL3 : L + (m + 1) ≤ 4 := HF.out.1
      have hb2 := hR.base_leU
      go_wp2_with fail
      refine (l14Flat_any 2 (by omega) q wr hR (by rw [pkF2]; omega)).mono ?_
      rintro r w5 ⟨h1, G, ag, cg, p1, rfl, hg, hp1', R5, O5⟩
      rw [pkF2] at hp1'
      rw [szF2] at hg
      have hbW : Below w5.heap.size w5 (w5.alloc (.cells #[.int .i64 h1.k, .int .i64 h1.m, .int .i64 h1.e, .string h1.t, .slice ag G.len cg, .slice h1.na h1.ns.length h1.nc] 28)) := (Below.refl _ _).alloc (Nat.le_refl _) _
      have hge5 : wr.heap.size ≤ w5.heap.size := O5.1
      have hv5 : vb < w5.heap.size := Nat.lt_of_lt_of_le hz hge5
      have X6 : Row (w5.alloc (.cells #[.int .i64 h1.k, .int .i64 h1.m, .int .i64 h1.e, .string h1.t, .slice ag G.len cg, .slice h1.na h1.ns.length h1.nc] 28)) w5.heap.size (six h1 ag G.len cg) := Row.new w5 _ _
      have OT := O5.alloc (.cells #[.int .i64 h1.k, .int .i64 h1.m, .int .i64 h1.e, .string h1.t, .slice ag G.len cg, .slice h1.na h1.ns.length h1.nc] 28)
      have G6 := hg.below hbW
      have R6 := R5.below hbW
      have hz6 : w5.heap.size < (w5.alloc (.cells #[.int .i64 h1.k, .int .i64 h1.m, .int .i64 h1.e, .string h1.t, .slice ag G.len cg, .slice h1.na h1.ns.length h1.nc] 28)).heap.size := by simp
      have HST : Hid (Row wr vb (six h0 av F.len c) ∧ Row wr W.heap.size zero6 ∧ ValS (vb + 1) L (L * (szT d + 1)) wr h0 av c F ∧ Otb b W wr) := ⟨hV, hZ, hS, hO⟩
      clear hV hZ hS hO hR O5 hg R5 hbW
      go_wp2_with fail
      obtain ⟨xb, hxb⟩ : ∃ xb, w5.heap.size = xb := ⟨_, rfl⟩
      rw [hxb] at X6 hz6 hv5 hge5
      (try rw [hxb])
      generalize w5.alloc (.cells #[.int .i64 h1.k, .int .i64 h1.m, .int .i64 h1.e, .string h1.t, .slice ag G.len cg, .slice h1.na h1.ns.length h1.nc] 28) = w6 at *
      clear hxb
      refine (pick_any 2 R6 (by omega) (by omega) (by omega)).mono ?_
      rintro r w7 ⟨⟨v, rfl, v0, v1⟩, s7⟩
      have hxb2 : ¬ xb = b := by have := HWv.out; omega
      have R7 := R6.step s7
      have X7 : Row w7 xb (six h1 ag G.len cg) := Row.otb ((Otb.refl b w6).stepped s7) hxb2 X6
      have O7 := OT.stepped s7
      have G7 := G6.otr (((Otb.refl b w6).stepped s7).otr none) (by have := HWv.out; omega) (fun g hg => by cases hg)
      have hz7 : xb < w7.heap.size := by rw [s7.other.2.2]; exact hz6
      clear R6 X6 OT G6 hz6 s7
      have hv : (v == 0) = true ∨ (v == 0) = false := by cases (v == 0) <;> simp
      rcases hv with hv | hv
      · have e1 : D - 1 = (d : Int) := by have := HDD.out; omega
        have HE1 : Hid (D - 1 = (d : Int)) := e1
        clear e1
        go_wp2_with fail
        rw [HE1.out]
        refine (HH.out (p1 + 1) w7 R7 (by omega)).mono ?_
        rintro r w8 ⟨h2, G2, ag2, cg2, p2, rfl, hg2, hp2, R8, O8⟩
        have X8 := X7.otb O8 hxb2
        have OT8 := O7.trans O8
        obtain ⟨t0, f0⟩ := X8 0 _ rfl
        obtain ⟨t1, f1⟩ := X8 1 _ rfl
        obtain ⟨t2, f2⟩ := X8 2 _ rfl
        obtain ⟨t3, f3⟩ := X8 3 _ rfl
        obtain ⟨t4, f4⟩ := X8 4 _ rfl
        obtain ⟨t5, f5⟩ := X8 5 _ rfl
        have hPo := Otr.put6 b (j := xb) (o := 0) w8 (.int .i64 h2.k) (.int .i64 h2.m) (.int .i64 h2.e) (.string h2.t) (.slice ag2 G2.len cg2) (.slice h2.na h2.ns.length h2.nc)
        have X6 : Row (put6 w8 xb 0 (.int .i64 h2.k) (.int .i64 h2.m) (.int .i64 h2.e) (.string h2.t) (.slice ag2 G2.len cg2) (.slice h2.na h2.ns.length h2.nc)) xb (six h2 ag2 G2.len cg2) := Row.put6 X8
        have G6 := hg2.otr hPo (by have := HWv.out; omega) (fun g hg => by cases hg; omega)
        have hb8 := R8.base_leU
        have R6 := R8.uptoU (put6_below (B := xb) (nb := xb) (o := 0) (Below.refl _ w8) (Nat.le_refl _) (.int .i64 h2.k) (.int .i64 h2.m) (.int .i64 h2.e) (.string h2.t) (.slice ag2 G2.len cg2) (.slice h2.na h2.ns.length h2.nc)) (by have := HWv.out; omega) (by have := HWv.out; omega)
        have OT6 := OT8.upto (put6_below (B := wr.heap.size) (nb := xb) (o := 0) (Below.refl _ w8) hge5 (.int .i64 h2.k) (.int .i64 h2.m) (.int .i64 h2.e) (.string h2.t) (.slice ag2 G2.len cg2) (.slice h2.na h2.ns.length h2.nc))
        have hge7 : w7.heap.size ≤ w8.heap.size := O8.1
        have hz6 : xb < (put6 w8 xb 0 (.int .i64 h2.k) (.int .i64 h2.m) (.int .i64 h2.e) (.string h2.t) (.slice ag2 G2.len cg2) (.slice h2.na h2.ns.length h2.nc)).heap.size := by rw [put6_size]; omega
        clear X7 O7 G7 R7 X8 OT8 hg2 R8 O8 hPo hb8
        go_wp2_with fail
        change Code.wp Try.prog _ _ _ (put6 w8 xb 0 (.int .i64 h2.k) (.int .i64 h2.m) (.int .i64 h2.e) (.string h2.t) (.slice ag2 G2.len cg2) (.slice h2.na h2.ns.length h2.nc))
        generalize put6 w8 xb 0 (.int .i64 h2.k) (.int .i64 h2.m) (.int .i64 h2.e) (.string h2.t) (.slice ag2 G2.len cg2) (.slice h2.na h2.ns.length h2.nc) = w6b at *
        obtain ⟨hV, hZ, hS, hO⟩ := HST.out
        have V6 := hV.otb OT6 hvb2
        have Z6 := hZ.otb OT6 hne
        have S6 := hS.otr (OT6.otr none) (by have := HWv.out; omega) (fun g hg => by cases hg)
        have O6 := hO.trans OT6
        have hgew : wr.heap.size ≤ w6b.heap.size := OT6.1
        clear hV hZ hS hO OT6
        refine uf8 (xb := xb) (B0 := vb + 1) R6 (by omega) hvb2 (by have := HWv.out; omega) (by omega) (by have := HWv.out; omega) (by omega) V6 X6 S6 G6 (by omega) (by omega) HL.out (by omega) (fun _ d _ _ _ h => by cases d <;> exact h) ?_
        intro ws h' a' c' F' v28 v29 v30 v31 v32 v33 v34 v35 v36 hOt hR1 hS1 hl1
        have hP := Otr.put6 b (j := vb) (o := 0) ws (.int .i64 h'.k) (.int .i64 h'.m) (.int .i64 h'.e) (.string h'.t) (.slice a' F'.len c') (.slice h'.na h'.ns.length h'.nc)
        have hWv := HWv.out
        have hb6 := hR1.base_leU
        have hS2 := hS1.otr hP (by omega) (fun g hg => by cases hg; omega)
        have hV2 : Row (put6 ws vb 0 (.int .i64 h'.k) (.int .i64 h'.m) (.int .i64 h'.e) (.string h'.t) (.slice a' F'.len c') (.slice h'.na h'.ns.length h'.nc)) vb (six h' a' F'.len c') := Row.put6 (Row.otb hOt hvb2 V6)
        have hZ2 := hP.row hne (fun e => by cases e; omega) (Row.otb hOt hne Z6)
        have hR2 : Rd w0 B b a len cap (p2 + 1) _ := hR1.uptoU (put6_below (B := vb) (nb := vb) (o := 0) (Below.refl _ ws) (Nat.le_refl _) (.int .i64 h'.k) (.int .i64 h'.m) (.int .i64 h'.e) (.string h'.t) (.slice a' F'.len c') (.slice h'.na h'.ns.length h'.nc)) (by omega) (by omega)
        have hO2 : Otb b W _ := (O6.trans hOt).upto (put6_below (B := W.heap.size) (nb := vb) (o := 0) (Below.refl _ ws) (by omega) (.int .i64 h'.k) (.int .i64 h'.m) (.int .i64 h'.e) (.string h'.t) (.slice a' F'.len c') (.slice h'.na h'.ns.length h'.nc))
        have hz2 : vb < (put6 ws vb 0 (.int .i64 h'.k) (.int .i64 h'.m) (.int .i64 h'.e) (.string h'.t) (.slice a' F'.len c') (.slice h'.na h'.ns.length h'.nc)).heap.size := by have h1 := hOt.1; have h2 := hP.1; omega
        generalize put6 ws vb 0 (.int .i64 h'.k) (.int .i64 h'.m) (.int .i64 h'.e) (.string h'.t) (.slice a' F'.len c') (.slice h'.na h'.ns.length h'.nc) = wn at *
        have hL1 : L + 1 ≤ 4 := by omega
        have HN : Hid (Row wn vb (six h' a' F'.len c') ∧ Row wn W.heap.size zero6 ∧ ValS (vb + 1) (L + 1) ((L + 1) * ((szT d) + 1)) wn h' a' c' F' ∧ F'.len = h'.ns.length ∧ Rd w0 B b a len cap (p2 + 1) wn ∧ Otb b W wn ∧ vb < wn.heap.size) := ⟨hV2, hZ2, hS2.mono (Nat.le_refl _) (Nat.le_refl _) (by rw [Nat.succ_mul]; omega), hl1, hR2, hO2, hz2⟩
        clear V6 Z6 X6 S6 G6 R6 O6 hOt hR1 hS1 hP hS2 hV2 hZ2 hR2 hO2 hz2 hl1 hWv hb6
        have hm3 : m ≤ 3 := by omega
        go_wp2_with fail
        refine ⟨?_, ?_⟩
        · obtain ⟨n1, n2, n3, n4, n5, n6, n7⟩ := HN.out
          exact ⟨m, L + 1, h', F', a', c', _, rfl, by omega, by have := HQ.out; omega, n1, n2, n3, n4, n5, n6, n7⟩
        · simp [intOf]
      · obtain ⟨hV, hZ, hS, hO⟩ := HST.out
        have V6 := hV.otb O7 hvb2
        have Z6 := hZ.otb O7 hne
        have S6 := hS.otr (O7.otr none) (by have := HWv.out; omega) (fun g hg => by cases hg)
        have O6 := hO.trans O7
        have X6 := X7
        have G6 := G7
        have R6 := R7
        clear hV hZ hS hO O7 X7 G7 R7
        go_wp2_with fail
        refine uf8 (xb := xb) (B0 := vb + 1) R6 (by omega) hvb2 (by have := HWv.out; omega) (by omega) (by have := HWv.out; omega) (by omega) V6 X6 S6 G6 (by omega) (by omega) HL.out (by omega) (fun _ d _ _ _ h => by cases d <;> exact h) ?_
        intro ws h' a' c' F' v28 v29 v30 v31 v32 v33 v34 v35 v36 hOt hR1 hS1 hl1
        have hP := Otr.put6 b (j := vb) (o := 0) ws (.int .i64 h'.k) (.int .i64 h'.m) (.int .i64 h'.e) (.string h'.t) (.slice a' F'.len c') (.slice h'.na h'.ns.length h'.nc)
        have hWv := HWv.out
        have hb6 := hR1.base_leU
        have hS2 := hS1.otr hP (by omega) (fun g hg => by cases hg; omega)
        have hV2 : Row (put6 ws vb 0 (.int .i64 h'.k) (.int .i64 h'.m) (.int .i64 h'.e) (.string h'.t) (.slice a' F'.len c') (.slice h'.na h'.ns.length h'.nc)) vb (six h' a' F'.len c') := Row.put6 (Row.otb hOt hvb2 V6)
        have hZ2 := hP.row hne (fun e => by cases e; omega) (Row.otb hOt hne Z6)
        have hR2 : Rd w0 B b a len cap ((p1 + 1) + 1) _ := hR1.uptoU (put6_below (B := vb) (nb := vb) (o := 0) (Below.refl _ ws) (Nat.le_refl _) (.int .i64 h'.k) (.int .i64 h'.m) (.int .i64 h'.e) (.string h'.t) (.slice a' F'.len c') (.slice h'.na h'.ns.length h'.nc)) (by omega) (by omega)
        have hO2 : Otb b W _ := (O6.trans hOt).upto (put6_below (B := W.heap.size) (nb := vb) (o := 0) (Below.refl _ ws) (by omega) (.int .i64 h'.k) (.int .i64 h'.m) (.int .i64 h'.e) (.string h'.t) (.slice a' F'.len c') (.slice h'.na h'.ns.length h'.nc))
        have hz2 : vb < (put6 ws vb 0 (.int .i64 h'.k) (.int .i64 h'.m) (.int .i64 h'.e) (.string h'.t) (.slice a' F'.len c') (.slice h'.na h'.ns.length h'.nc)).heap.size := by have h1 := hOt.1; have h2 := hP.1; omega
        generalize put6 ws vb 0 (.int .i64 h'.k) (.int .i64 h'.m) (.int .i64 h'.e) (.string h'.t) (.slice a' F'.len c') (.slice h'.na h'.ns.length h'.nc) = wn at *
        have hL1 : L + 1 ≤ 4 := by omega
        have HN : Hid (Row wn vb (six h' a' F'.len c') ∧ Row wn W.heap.size zero6 ∧ ValS (vb + 1) (L + 1) ((L + 1) * ((szT d) + 1)) wn h' a' c' F' ∧ F'.len = h'.ns.length ∧ Rd w0 B b a len cap ((p1 + 1) + 1) wn ∧ Otb b W wn ∧ vb < wn.heap.size) := ⟨hV2, hZ2, hS2.mono (Nat.le_refl _) (Nat.le_refl _) (by rw [Nat.succ_mul]; omega), hl1, hR2, hO2, hz2⟩
        clear V6 Z6 X6 S6 G6 R6 O6 hOt hR1 hS1 hP hS2 hV2 hZ2 hR2 hO2 hz2 hl1 hWv hb6
        have hm3 : m ≤ 3 := by omega
        go_wp2_with fail
        refine ⟨?_, ?_⟩
        · obtain ⟨n1, n2, n3, n4, n5, n6, n7⟩ := HN.out
          exact ⟨m, L + 1, h', F', a', c', _, rfl, by omega, by have := HQ.out; omega, n1, n2, n3, n4, n5, n6, n7⟩
        · simp [intOf]
    · have hn0 : n = 0 := by omega
      have hn2 : ¬ (0 : Int) < (n : Int) := by omega
      obtain ⟨e1, e2⟩ := HF.out
      have hL4 : L ≤ 4 := by omega
      have hM : L * ((szT d) + 1) ≤ 4 * ((szT d) + 1) := Nat.mul_le_mul_right _ hL4
      have hqe : q ≤ p + pkT (d + 1) := by subst hn0; omega
      obtain ⟨r0, g0⟩ := hZ 0 _ rfl
      obtain ⟨r1, g1⟩ := hZ 1 _ rfl
      obtain ⟨r2, g2⟩ := hZ 2 _ rfl
      obtain ⟨r3, g3⟩ := hZ 3 _ rfl
      obtain ⟨r4, g4⟩ := hZ 4 _ rfl
      obtain ⟨r5, g5⟩ := hZ 5 _ rfl
      have s0 := (hV 0 _ rfl).1
      have s1 := (hV 1 _ rfl).1
      have s2 := (hV 2 _ rfl).1
      have s3 := (hV 3 _ rfl).1
      have s4 := (hV 4 _ rfl).1
      have s5 := (hV 5 _ rfl).1
      have HP6 := Row.put6 (v0 := .int .i64 h0.k) (v1 := .int .i64 h0.m) (v2 := .int .i64 h0.e) (v3 := .string h0.t) (v4 := .slice av F.len c) (v5 := .slice h0.na h0.ns.length h0.nc) hZ
      have HO6 := Otr.put6 b (j := W.heap.size) (o := 0) wr (.int .i64 h0.k) (.int .i64 h0.m) (.int .i64 h0.e) (.string h0.t) (.slice av F.len c) (.slice h0.na h0.ns.length h0.nc)
      have hb9 := hR.base_leU
      have hWv := HWv.out
      have S10 := (hS.otr HO6 (by omega) (fun g hg => by cases hg; omega)).mono (B1 := W.heap.size) (L' := 4) (M' := szT (d + 1)) (by omega) hL4 (Nat.le_trans hM hse)
      have R10 := hR.uptoU (put6_below (B := W.heap.size) (nb := W.heap.size) (o := 0) (Below.refl _ wr) (Nat.le_refl _) (.int .i64 h0.k) (.int .i64 h0.m) (.int .i64 h0.e) (.string h0.t) (.slice av F.len c) (.slice h0.na h0.ns.length h0.nc)) hlt (by omega)
      have O10 := hO.upto (put6_below (B := W.heap.size) (nb := W.heap.size) (o := 0) (Below.refl _ wr) (Nat.le_refl _) (.int .i64 h0.k) (.int .i64 h0.m) (.int .i64 h0.e) (.string h0.t) (.slice av F.len c) (.slice h0.na h0.ns.length h0.nc))
      have HS10 : Hid (ValS W.heap.size 4 (szT (d + 1)) (put6 wr W.heap.size 0 (.int .i64 h0.k) (.int .i64 h0.m) (.int .i64 h0.e) (.string h0.t) (.slice av F.len c) (.slice h0.na h0.ns.length h0.nc)) h0 av c F ∧ Rd w0 B b a len cap q (put6 wr W.heap.size 0 (.int .i64 h0.k) (.int .i64 h0.m) (.int .i64 h0.e) (.string h0.t) (.slice av F.len c) (.slice h0.na h0.ns.length h0.nc)) ∧ Otb b W (put6 wr W.heap.size 0 (.int .i64 h0.k) (.int .i64 h0.m) (.int .i64 h0.e) (.string h0.t) (.slice av F.len c) (.slice h0.na h0.ns.length h0.nc))) := ⟨S10, R10, O10⟩
      clear hV hZ hS hR hO HO6 S10 R10 O10 e1 e2 hM HF hn0 hn HL hWv
      go_wp2_with fail
      show bodyPost Try.prog Try.f21 _ Exit.ret _ (put6 wr W.heap.size 0 (.int .i64 h0.k) (.int .i64 h0.m) (.int .i64 h0.e) (.string h0.t) (.slice av F.len c) (.slice h0.na h0.ns.length h0.nc))
      generalize put6 wr W.heap.size 0 (.int .i64 h0.k) (.int .i64 h0.m) (.int .i64 h0.e) (.string h0.t) (.slice av F.len c) (.slice h0.na h0.ns.length h0.nc) = W6 at *
      have y0 := (HP6 0 _ rfl).1
      have y1 := (HP6 1 _ rfl).1
      have y2 := (HP6 2 _ rfl).1
      have y3 := (HP6 3 _ rfl).1
      have y4 := (HP6 4 _ rfl).1
      have y5 := (HP6 5 _ rfl).1
      obtain ⟨z1, z2, z3⟩ := HS10.out
      refine bodyPost_ret (v := valV h0 av F.len c) (by simp [results, Try.results21, go_sem, y0, y1, y2, y3, y4, y5]) rfl (by first | exact ⟨h0, F, av, c, _, rfl, z1, hqe, z2, z3⟩ | exact ⟨h0, F, av, c, rfl, z1, _, hqe, z2, z3⟩)
theorem l14Fits_any {w0 : World} {B b : Nat} {a : Option Addr} {len cap : Nat} : ∀ d : Nat, d ≤ 900 → FitsC w0 B b a len cap d := by
  intro d
  induction d with
  | zero => exact fun _ => l14Fits_zero
  | succ d ih => exact fun h => l14Fits_next (by omega) (ih (by omega))
end Go.Proofs.Ytfgchdnpbbgmjaa
