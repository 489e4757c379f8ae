/- My own texts, joined: Ul Uw LexA LexB LexC. -/
import Derived.Test.YtfgchdnpbbgmjaaJFnTomlNot8
import Derived.Test.YtfgchdnpbbgmjaaJFnTomlNot11
import Derived.Test.YtfgchdnpbbgmjaaRows
import Derived.WalkKit
import Derived.WalkSpells
import Derived.WalkLawsBesides
import Derived.Test.YtfgchdnpbbgmjaaJFnTomlNot4
/- Drawn values: l14AnyValue, and the draws of one value. -/
namespace Go.Proofs.Ytfgchdnpbbgmjaa
open Go.RowKit
attribute [local go_sem] cell_alloc_is frozen_alloc_is
theorem small_d {n : Nat} (h : n < 3) : pkD (n + 1) ≤ 1356 ∧ szD (n + 1) ≤ 39 := by
  have : n = 0 ∨ n = 1 ∨ n = 2 := by omega
  rcases this with rfl | rfl | rfl <;> decide
theorem blk_ne {F : Vo} {vb : Nat} (h : F.Blk (fun x => ¬ x = vb)) : F.Blk (fun x => some x ≠ some vb) := h.mono fun _ hx e => hx (Option.some.inj e)
theorem AnyS.put {B0 M b vb o : Nat} {w : World} {h : Hd} {a : Option Addr} {c : Nat} {F : Vo} (x : AnyS B0 M w h a c F) (hb : b < B0) (hf : (oneV h a c F).Blk (fun x => ¬ x = vb)) (u : Value) : AnyS B0 M (w.setCell ⟨vb, o, none⟩ u) h a c F :=
  x.otr2 (Otr.setCell b w u) hb (blk_ne hf)

set_option maxRecDepth 100000 in
set_option maxHeartbeats 2000000 in
theorem l14AnyValue_any {w0 : World} {B b : Nat} {a : Option Addr} {len cap : Nat} (p : Int) (W : World) (hR : Rd w0 B b a len cap p W) (hp : p ≤ 70000) :
    Calls Try.prog 20 #[.pointer (some ⟨b, 0, none⟩)] W fun e w' => ∃ hV F av c p', e = .returned (valV hV av F.len c) ∧ AnyS W.heap.size 60 w' hV av c F ∧ p' ≤ p + 2000 ∧ Rd w0 B b a len cap p' w' ∧ Otb b W w' := by
  have hlt := hR.lt
  have hne : ¬ W.heap.size = b := by omega
  have Z0 : Row (W.alloc (.cells #[.int .i64 0, .int .i64 0, .int .i64 0, .string ⟨#[]⟩, .slice none 0 0, .slice none 0 0] 28)) W.heap.size zero6 := Row.new W zero6 28
  have R0 := hR.below ((Below.refl _ W).alloc (Nat.le_refl _) (.cells #[.int .i64 0, .int .i64 0, .int .i64 0, .string ⟨#[]⟩, .slice none 0 0, .slice none 0 0] 28))
  have O0 := (Otb.refl b W).alloc (.cells #[.int .i64 0, .int .i64 0, .int .i64 0, .string ⟨#[]⟩, .slice none 0 0, .slice none 0 0] 28)
  have hz0 : W.heap.size < (W.alloc (.cells #[.int .i64 0, .int .i64 0, .int .i64 0, .string ⟨#[]⟩, .slice none 0 0, .slice none 0 0] 28)).heap.size := by simp
  clear hR
  go_enter Try.func20, Try.ntmps20
  go_wp2_with fail
  generalize W.alloc (.cells #[.int .i64 0, .int .i64 0, .int .i64 0, .string ⟨#[]⟩, .slice none 0 0, .slice none 0 0] 28) = W1 at *
  refine (pick_any 3 R0 (by omega) (by omega) (by omega)).mono ?_
  rintro r w1 ⟨⟨v0, rfl, v00, v01⟩, s1⟩
  have R1 := R0.step s1
  have Z1 : Row w1 W.heap.size zero6 := Row.otb ((Otb.refl b W1).stepped s1) hne Z0
  have O1 := O0.stepped s1
  have hz1 : W.heap.size < w1.heap.size := by rw [s1.other.2.2]; exact hz0
  clear Z0 R0 O0 hz0 s1
  obtain ⟨n, rfl⟩ := Int.eq_ofNat_of_zero_le v00
  obtain ⟨pk, sz⟩ := small_d (n := n) (by omega)
  have e1 : (1 : Int) + (n : Int) = ((n + 1 : Nat) : Int) := by omega
  have hl14 := l14Value_any (w0 := w0) (B := B) (b := b) (a := a) (len := len) (cap := cap) (n + 1) (by omega) (p + 1) w1 R1 (by omega)
  rw [← e1] at hl14
  have HL : Hid (Calls Try.prog 46 #[.pointer (some ⟨b, 0, none⟩), .int .i64 (1 + (n : Int))] w1 _) := hl14
  clear hl14 e1
  go_wp2_with fail
  refine HL.out.mono ?_
  rintro r w2 ⟨hV, F, av, c, p2, rfl, hval, hp2, R2, O12⟩
  have Z2 : Row w2 W.heap.size zero6 := Row.otb O12 hne Z1
  have O2 := O1.trans O12
  have hz2 : W.heap.size < w2.heap.size := Nat.lt_of_lt_of_le hz1 O12.1
  have hb1 : b < w1.heap.size := R1.lt
  have hnvb : ∀ x, blkOf hV.na = some x → W.heap.size < x ∧ x < w2.heap.size := fun x hx => by
    have h5 := hval.2.2.1.lt x (by rw [ownBlock_blkOf]; exact hx)
    omega
  have hfar : (oneV hV av c F).Blk (fun x => x < w2.heap.size) := hval.blk.mono fun x hx => hx.2
  have hval1 := hval.mono (B1 := W.heap.size + 1) (L' := 3) (M' := 39) (by omega) (Nat.le_refl _) sz
  have hp3 : p2 ≤ p + 1 + 1356 := by omega
  clear HL Z1 R1 O1 O12 hz1 hval hp2 pk sz
  have hbW : Below w2.heap.size w2 (w2.alloc (.cells #[.int .i64 hV.k, .int .i64 hV.m, .int .i64 hV.e, .string hV.t, .slice av F.len c, .slice hV.na hV.ns.length hV.nc] 28)) := (Below.refl _ _).alloc (Nat.le_refl _) _
  have V3 : Row (w2.alloc (.cells #[.int .i64 hV.k, .int .i64 hV.m, .int .i64 hV.e, .string hV.t, .slice av F.len c, .slice hV.na hV.ns.length hV.nc] 28)) w2.heap.size (six hV av F.len c) := Row.new w2 _ _
  have Z3 := Z2.below hbW hz2
  have R3 := R2.below hbW
  have O3 := O2.alloc (.cells #[.int .i64 hV.k, .int .i64 hV.m, .int .i64 hV.e, .string hV.t, .slice av F.len c, .slice hV.na hV.ns.length hV.nc] 28)
  have S3 := hval1.below hbW
  have hsz : w2.heap.size < (w2.alloc (.cells #[.int .i64 hV.k, .int .i64 hV.m, .int .i64 hV.e, .string hV.t, .slice av F.len c, .slice hV.na hV.ns.length hV.nc] 28)).heap.size := by simp
  have HNv : Hid (∀ x, blkOf hV.na = some x → W.heap.size < x ∧ x < w2.heap.size) := hnvb
  have HFar : Hid ((oneV hV av c F).Blk (fun x => x < w2.heap.size)) := hfar
  have HZ2 : Hid (W.heap.size < w2.heap.size) := hz2
  clear hnvb hfar hval1 Z2 R2 O2 hbW hz2
  go_wp2_with fail
  obtain ⟨vb, hvb⟩ : ∃ vb, w2.heap.size = vb := ⟨_, rfl⟩
  rw [hvb] at V3 hsz HFar HNv HZ2 ⊢
  generalize w2.alloc (.cells #[.int .i64 hV.k, .int .i64 hV.m, .int .i64 hV.e, .string hV.t, .slice av F.len c, .slice hV.na hV.ns.length hV.nc] 28) = W3 at *
  clear hvb
  refine (pick_any 20 R3 (by omega) (by omega) (by omega)).mono ?_
  rintro r w4 ⟨⟨v, rfl, v0, v1⟩, s4⟩
  have hvb2 : ¬ vb = b := by have := HZ2.out; omega
  have R4 := R3.step s4
  have V4 : Row w4 vb (six hV av F.len c) := Row.otb ((Otb.refl b W3).stepped s4) hvb2 V3
  have Z4 : Row w4 W.heap.size zero6 := Row.otb ((Otb.refl b W3).stepped s4) hne Z3
  have O4 := O3.stepped s4
  have S4 : ValS (W.heap.size + 1) 3 39 w4 hV av c F := S3.otr (((Otb.refl b W3).stepped s4).otr none) (by omega) (fun g hg => by cases hg)
  have hz4 : vb < w4.heap.size := by rw [s4.other.2.2]; exact hsz
  have hbB : b < W.heap.size + 1 := by omega
  have HFn : Hid ((oneV hV av c F).Blk (fun x => ¬ x = vb)) := HFar.out.mono fun x hx => by omega
  clear V3 Z3 R3 O3 S3 s4 hsz
  have hv : v = 0 ∨ v = 1 ∨ v = 2 ∨ v = 3 ∨ v = 4 ∨ 5 ≤ v := by omega
  rcases hv with rfl | rfl | rfl | rfl | rfl | hv
  · have hb : Below w4.heap.size w4 (w4.alloc (.cells #[.int .i64 (-1), .int .i64 7, .int .i64 5] 3)) := (Below.refl _ _).alloc (Nat.le_refl _) _
    have R5 := R4.below hb
    go_wp2_with fail
    refine (one_any R5 (by omega) w4.heap.size 3 [-1, 7, 5] (by have := HZ2.out; omega) rfl (by omega) (by omega) (cells_list w4 [-1, 7, 5] 3)).mono ?_
    rintro r w5 ⟨⟨z, rfl, hz6⟩, s5⟩
    have HZ6 : Hid (¬ z = 6) := (by unfold Hid; simp at hz6; rcases hz6 with rfl | rfl | rfl <;> decide)
    clear hz6
    have R6 := R5.step s5
    have O45 : Otb b w4 w5 := ((Otb.refl b w4).alloc (.cells #[.int .i64 (-1), .int .i64 7, .int .i64 5] 3)).stepped s5
    have V5 := Row.otb O45 hvb2 V4
    have Z5 := Row.otb O45 hne Z4
    have O5 := O4.trans O45
    have S5 := (S4.any (by omega)).otr (O45.otr none) hbB (fun g hg => by cases hg)
    clear R4 R5 V4 Z4 O4 S4 O45 hb s5
    obtain ⟨t0, f0⟩ := V5 0 _ rfl
    obtain ⟨t1, f1⟩ := V5 1 _ rfl
    obtain ⟨t2, f2⟩ := V5 2 _ rfl
    obtain ⟨t3, f3⟩ := V5 3 _ rfl
    obtain ⟨t4, f4⟩ := V5 4 _ rfl
    obtain ⟨t5, f5⟩ := V5 5 _ rfl
    have V9 := V5.set (i := 0) (by show 0 < 6; omega) (.int .i64 z)
    have Z9 := Z5.setOther (j := vb) (by have := HZ2.out; omega) 0 (.int .i64 z)
    have hb6 := R6.base_leU
    have R9 := R6.set (j := vb) (o := 0) (by have := HZ2.out; omega) (by omega) (.int .i64 z)
    have O9 := O5.set (j := vb) (o := 0) (by have := HZ2.out; omega) (.int .i64 z)
    have S9 := (S5.put (o := 0) hbB HFn.out (.int .i64 z)).head z hV.m hV.e hV.t S5.2.2.2.2.1 (.inr HZ6.out)
    have y00 := (V9 0 _ rfl).1
    clear V5 Z5 O5 S5 R6 V9 y00
    obtain ⟨r0, g0⟩ := Z9 0 _ rfl
    obtain ⟨r1, g1⟩ := Z9 1 _ rfl
    obtain ⟨r2, g2⟩ := Z9 2 _ rfl
    obtain ⟨r3, g3⟩ := Z9 3 _ rfl
    obtain ⟨r4, g4⟩ := Z9 4 _ rfl
    obtain ⟨r5, g5⟩ := Z9 5 _ rfl
    have HP6 := Row.put6 (v0 := .int .i64 ((Hd.mk z hV.m hV.e hV.t hV.na hV.nc hV.ns)).k) (v1 := .int .i64 ((Hd.mk z hV.m hV.e hV.t hV.na hV.nc hV.ns)).m) (v2 := .int .i64 ((Hd.mk z hV.m hV.e hV.t hV.na hV.nc hV.ns)).e) (v3 := .string ((Hd.mk z hV.m hV.e hV.t hV.na hV.nc hV.ns)).t) (v4 := .slice av (F).len c) (v5 := .slice ((Hd.mk z hV.m hV.e hV.t hV.na hV.nc hV.ns)).na ((Hd.mk z hV.m hV.e hV.t hV.na hV.nc hV.ns)).ns.length ((Hd.mk z hV.m hV.e hV.t hV.na hV.nc hV.ns)).nc) Z9
    have HO6 := Otr.put6 b (j := W.heap.size) (o := 0) (w5.setCell ⟨vb, 0, none⟩ (.int .i64 z)) (.int .i64 ((Hd.mk z hV.m hV.e hV.t hV.na hV.nc hV.ns)).k) (.int .i64 ((Hd.mk z hV.m hV.e hV.t hV.na hV.nc hV.ns)).m) (.int .i64 ((Hd.mk z hV.m hV.e hV.t hV.na hV.nc hV.ns)).e) (.string ((Hd.mk z hV.m hV.e hV.t hV.na hV.nc hV.ns)).t) (.slice av (F).len c) (.slice ((Hd.mk z hV.m hV.e hV.t hV.na hV.nc hV.ns)).na ((Hd.mk z hV.m hV.e hV.t hV.na hV.nc hV.ns)).ns.length ((Hd.mk z hV.m hV.e hV.t hV.na hV.nc hV.ns)).nc)
    have hb9 := R9.base_leU
    have S10 := (S9.otr HO6 hbB (fun g hg => by cases hg; omega)).mono (B1 := W.heap.size) (M' := 60) (by omega) (by omega)
    have R10 := R9.uptoU (put6_below (B := W.heap.size) (nb := W.heap.size) (o := 0) (Below.refl _ (w5.setCell ⟨vb, 0, none⟩ (.int .i64 z))) (Nat.le_refl _) (.int .i64 ((Hd.mk z hV.m hV.e hV.t hV.na hV.nc hV.ns)).k) (.int .i64 ((Hd.mk z hV.m hV.e hV.t hV.na hV.nc hV.ns)).m) (.int .i64 ((Hd.mk z hV.m hV.e hV.t hV.na hV.nc hV.ns)).e) (.string ((Hd.mk z hV.m hV.e hV.t hV.na hV.nc hV.ns)).t) (.slice av (F).len c) (.slice ((Hd.mk z hV.m hV.e hV.t hV.na hV.nc hV.ns)).na ((Hd.mk z hV.m hV.e hV.t hV.na hV.nc hV.ns)).ns.length ((Hd.mk z hV.m hV.e hV.t hV.na hV.nc hV.ns)).nc)) hlt (by omega)
    have O10 := O9.upto (put6_below (B := W.heap.size) (nb := W.heap.size) (o := 0) (Below.refl _ (w5.setCell ⟨vb, 0, none⟩ (.int .i64 z))) (Nat.le_refl _) (.int .i64 ((Hd.mk z hV.m hV.e hV.t hV.na hV.nc hV.ns)).k) (.int .i64 ((Hd.mk z hV.m hV.e hV.t hV.na hV.nc hV.ns)).m) (.int .i64 ((Hd.mk z hV.m hV.e hV.t hV.na hV.nc hV.ns)).e) (.string ((Hd.mk z hV.m hV.e hV.t hV.na hV.nc hV.ns)).t) (.slice av (F).len c) (.slice ((Hd.mk z hV.m hV.e hV.t hV.na hV.nc hV.ns)).na ((Hd.mk z hV.m hV.e hV.t hV.na hV.nc hV.ns)).ns.length ((Hd.mk z hV.m hV.e hV.t hV.na hV.nc hV.ns)).nc))
    have HS10 : Hid (AnyS W.heap.size 60 (put6 (w5.setCell ⟨vb, 0, none⟩ (.int .i64 z)) W.heap.size 0 (.int .i64 ((Hd.mk z hV.m hV.e hV.t hV.na hV.nc hV.ns)).k) (.int .i64 ((Hd.mk z hV.m hV.e hV.t hV.na hV.nc hV.ns)).m) (.int .i64 ((Hd.mk z hV.m hV.e hV.t hV.na hV.nc hV.ns)).e) (.string ((Hd.mk z hV.m hV.e hV.t hV.na hV.nc hV.ns)).t) (.slice av (F).len c) (.slice ((Hd.mk z hV.m hV.e hV.t hV.na hV.nc hV.ns)).na ((Hd.mk z hV.m hV.e hV.t hV.na hV.nc hV.ns)).ns.length ((Hd.mk z hV.m hV.e hV.t hV.na hV.nc hV.ns)).nc)) ((Hd.mk z hV.m hV.e hV.t hV.na hV.nc hV.ns)) av c F ∧ Rd w0 B b a len cap _ (put6 (w5.setCell ⟨vb, 0, none⟩ (.int .i64 z)) W.heap.size 0 (.int .i64 ((Hd.mk z hV.m hV.e hV.t hV.na hV.nc hV.ns)).k) (.int .i64 ((Hd.mk z hV.m hV.e hV.t hV.na hV.nc hV.ns)).m) (.int .i64 ((Hd.mk z hV.m hV.e hV.t hV.na hV.nc hV.ns)).e) (.string ((Hd.mk z hV.m hV.e hV.t hV.na hV.nc hV.ns)).t) (.slice av (F).len c) (.slice ((Hd.mk z hV.m hV.e hV.t hV.na hV.nc hV.ns)).na ((Hd.mk z hV.m hV.e hV.t hV.na hV.nc hV.ns)).ns.length ((Hd.mk z hV.m hV.e hV.t hV.na hV.nc hV.ns)).nc)) ∧ Otb b W (put6 (w5.setCell ⟨vb, 0, none⟩ (.int .i64 z)) W.heap.size 0 (.int .i64 ((Hd.mk z hV.m hV.e hV.t hV.na hV.nc hV.ns)).k) (.int .i64 ((Hd.mk z hV.m hV.e hV.t hV.na hV.nc hV.ns)).m) (.int .i64 ((Hd.mk z hV.m hV.e hV.t hV.na hV.nc hV.ns)).e) (.string ((Hd.mk z hV.m hV.e hV.t hV.na hV.nc hV.ns)).t) (.slice av (F).len c) (.slice ((Hd.mk z hV.m hV.e hV.t hV.na hV.nc hV.ns)).na ((Hd.mk z hV.m hV.e hV.t hV.na hV.nc hV.ns)).ns.length ((Hd.mk z hV.m hV.e hV.t hV.na hV.nc hV.ns)).nc))) := ⟨S10, R10, O10⟩
    clear Z9 S9 R9 O9 HO6 S10 R10 O10
    go_wp2_with fail
    show bodyPost Try.prog Try.f20 _ Exit.ret _ (put6 (w5.setCell ⟨vb, 0, none⟩ (.int .i64 z)) W.heap.size 0 (.int .i64 ((Hd.mk z hV.m hV.e hV.t hV.na hV.nc hV.ns)).k) (.int .i64 ((Hd.mk z hV.m hV.e hV.t hV.na hV.nc hV.ns)).m) (.int .i64 ((Hd.mk z hV.m hV.e hV.t hV.na hV.nc hV.ns)).e) (.string ((Hd.mk z hV.m hV.e hV.t hV.na hV.nc hV.ns)).t) (.slice av (F).len c) (.slice ((Hd.mk z hV.m hV.e hV.t hV.na hV.nc hV.ns)).na ((Hd.mk z hV.m hV.e hV.t hV.na hV.nc hV.ns)).ns.length ((Hd.mk z hV.m hV.e hV.t hV.na hV.nc hV.ns)).nc))
    generalize put6 (w5.setCell ⟨vb, 0, none⟩ (.int .i64 z)) W.heap.size 0 (.int .i64 ((Hd.mk z hV.m hV.e hV.t hV.na hV.nc hV.ns)).k) (.int .i64 ((Hd.mk z hV.m hV.e hV.t hV.na hV.nc hV.ns)).m) (.int .i64 ((Hd.mk z hV.m hV.e hV.t hV.na hV.nc hV.ns)).e) (.string ((Hd.mk z hV.m hV.e hV.t hV.na hV.nc hV.ns)).t) (.slice av (F).len c) (.slice ((Hd.mk z hV.m hV.e hV.t hV.na hV.nc hV.ns)).na ((Hd.mk z hV.m hV.e hV.t hV.na hV.nc hV.ns)).ns.length ((Hd.mk z hV.m hV.e hV.t hV.na hV.nc hV.ns)).nc) = W6 at *
    have y0 := (HP6 0 _ rfl).1
    have y1 := (HP6 1 _ rfl).1
    have y2 := (HP6 2 _ rfl).1
    have y3 := (HP6 3 _ rfl).1
    have y4 := (HP6 4 _ rfl).1
    have y5 := (HP6 5 _ rfl).1
    obtain ⟨z1, z2, z3⟩ := HS10.out
    refine bodyPost_ret (v := valV ((Hd.mk z hV.m hV.e hV.t hV.na hV.nc hV.ns)) av (F).len c) (by simp [results, Try.results20, go_sem, y0, y1, y2, y3, y4, y5]) rfl (by first | exact ⟨(Hd.mk z hV.m hV.e hV.t hV.na hV.nc hV.ns), F, av, c, _, rfl, z1, by omega, z2, z3⟩ | exact ⟨(Hd.mk z hV.m hV.e hV.t hV.na hV.nc hV.ns), F, av, c, rfl, z1, _, by omega, z2, z3⟩)
  · obtain ⟨i0, hi, hy0, hy1, hy2⟩ := info_parts textInfo
    obtain ⟨t0, f0⟩ := V4 0 _ rfl
    obtain ⟨t1, f1⟩ := V4 1 _ rfl
    obtain ⟨t2, f2⟩ := V4 2 _ rfl
    obtain ⟨t3, f3⟩ := V4 3 _ rfl
    obtain ⟨t4, f4⟩ := V4 4 _ rfl
    obtain ⟨t5, f5⟩ := V4 5 _ rfl
    have hnl : hV.ns.length ≤ 3 := S4.1.2.1
    have hown := S4.2.2.1
    have hWw : W.heap.size + 1 ≤ w4.heap.size := by have := HZ2.out; omega
    go_wp2_with (
    at_builtin
    refine wpList_append_lies _ rfl _ _ 26 rfl (W.heap.size + 1) 9 i0 (.string ⟨#[]⟩) 1 16 Try.underlying26 hi hy0 hy1 hy2 rfl (by decide) (.slice hV.na hV.ns.length hV.nc) hV.ns.length (texts hV.ns) rfl (hown.alloc _) ⟨w4.heap.size, 0, none⟩ 1 1 [.string ⟨#[97]⟩] rfl rfl (cell_one_new _ _ _) (fun x hx => by simp at hx; subst hx; rfl) (by omega) (by unfold maxLen; omega) (by omega) (by simp; omega) _ rfl ?_
    intro g cc w5 hown5 hgr5 hat5 hlt5
    rw [ownBlock_blkOf] at hgr5 hat5
    have O45 : Otr b (blkOf hV.na) w4 w5 := ((Otr.refl b _ w4).below ((Below.refl _ _).alloc (Nat.le_refl _) _)).grown hgr5
    have hnvb2 : some vb ≠ blkOf hV.na := fun e => by have := (HNv.out vb e.symm).2; omega
    have hnrb2 : some W.heap.size ≠ blkOf hV.na := fun e => by have := (HNv.out _ e.symm).1; omega
    have V5 := O45.row hvb2 hnvb2 V4
    have Z5 := O45.row hne hnrb2 Z4
    have hown6 : w5.ownsRow (W.heap.size + 1) 9 1 (.slice (some ⟨g, 0, none⟩) (hV.ns.length + 1) cc) (hV.ns.length + 1) (texts (hV.ns ++ [⟨#[97]⟩])) := by unfold texts; rw [List.map_append]; exact hown5
    have hob5 : blkOf (some (⟨g, 0, none⟩ : Addr)) = blkOf hV.na ∨ ∃ g', blkOf (some (⟨g, 0, none⟩ : Addr)) = some g' ∧ vb < g' := by
      rcases hat5 with e | e
      · exact .inl e.symm
      · exact .inr ⟨g, rfl, by simp at e; omega⟩
    obtain ⟨S5, hF5⟩ := S4.name (b := b) (vb := vb) hbB HFar.out hob5 (fun x hx => by have := (HNv.out x hx).2; omega) (Nat.le_refl _) (by decide) O45 hown6
    have R5 : Rd w0 B b a len cap (p2 + 1) w5 := R4.uptoU (B' := W.heap.size) ((((Below.refl _ w4).alloc (by omega) _)).grown hgr5 (by simp; omega) (fun k hk => by have := (HNv.out k hk).1; omega)) hlt (by have := R4.base_leU; omega)
    have O5 : Otb b W w5 := ⟨Nat.le_trans O4.1 O45.1, fun x h1 h2 => (O45.2 x (Nat.lt_of_lt_of_le h1 O4.1) h2 (fun e => by have := (HNv.out x e.symm).1; omega)).trans (O4.2 x h1 h2)⟩
    obtain ⟨u5, e5⟩ := V5 5 _ rfl
    obtain ⟨u0, _⟩ := V5 0 _ rfl
    obtain ⟨u1, _⟩ := V5 1 _ rfl
    obtain ⟨u2, _⟩ := V5 2 _ rfl
    obtain ⟨u3, _⟩ := V5 3 _ rfl
    obtain ⟨u4, _⟩ := V5 4 _ rfl
    have Z9 := Z5.setOther (j := vb) (by have := HZ2.out; omega) 5 (.slice (some ⟨g, 0, none⟩) (hV.ns.length + 1) cc)
    have R9 := R5.set (j := vb) (o := 5) (by have := HZ2.out; have := R4.base_leU; omega) (by omega) (.slice (some ⟨g, 0, none⟩) (hV.ns.length + 1) cc)
    have O9 := O5.set (j := vb) (o := 5) (by have := HZ2.out; omega) (.slice (some ⟨g, 0, none⟩) (hV.ns.length + 1) cc)
    have S9 := S5.put (o := 5) hbB hF5 (.slice (some ⟨g, 0, none⟩) (hV.ns.length + 1) cc)
    have hlen : (hV.ns ++ [(⟨#[97]⟩ : ByteArray)]).length = hV.ns.length + 1 := by simp
    clear V5 Z5 O5 R5 S5 hown6 hown5 hgr5 hat5 hob5 V4 Z4 O4 R4 S4 O45 hnvb2 hnrb2 t0 t1 t2 t3 t4 t5 f0 f1 f2 f3 f4 f5 hown hF5
    obtain ⟨r0, g0⟩ := Z9 0 _ rfl
    obtain ⟨r1, g1⟩ := Z9 1 _ rfl
    obtain ⟨r2, g2⟩ := Z9 2 _ rfl
    obtain ⟨r3, g3⟩ := Z9 3 _ rfl
    obtain ⟨r4, g4⟩ := Z9 4 _ rfl
    obtain ⟨r5, g5⟩ := Z9 5 _ rfl
    have HP6 := Row.put6 (v0 := .int .i64 ((Hd.mk hV.k hV.m hV.e hV.t (some ⟨g, 0, none⟩) cc (hV.ns ++ [⟨#[97]⟩]))).k) (v1 := .int .i64 ((Hd.mk hV.k hV.m hV.e hV.t (some ⟨g, 0, none⟩) cc (hV.ns ++ [⟨#[97]⟩]))).m) (v2 := .int .i64 ((Hd.mk hV.k hV.m hV.e hV.t (some ⟨g, 0, none⟩) cc (hV.ns ++ [⟨#[97]⟩]))).e) (v3 := .string ((Hd.mk hV.k hV.m hV.e hV.t (some ⟨g, 0, none⟩) cc (hV.ns ++ [⟨#[97]⟩]))).t) (v4 := .slice av (F).len c) (v5 := .slice ((Hd.mk hV.k hV.m hV.e hV.t (some ⟨g, 0, none⟩) cc (hV.ns ++ [⟨#[97]⟩]))).na (hV.ns.length + 1) ((Hd.mk hV.k hV.m hV.e hV.t (some ⟨g, 0, none⟩) cc (hV.ns ++ [⟨#[97]⟩]))).nc) Z9
    have HO6 := Otr.put6 b (j := W.heap.size) (o := 0) (w5.setCell ⟨vb, 5, none⟩ (.slice (some ⟨g, 0, none⟩) (hV.ns.length + 1) cc)) (.int .i64 ((Hd.mk hV.k hV.m hV.e hV.t (some ⟨g, 0, none⟩) cc (hV.ns ++ [⟨#[97]⟩]))).k) (.int .i64 ((Hd.mk hV.k hV.m hV.e hV.t (some ⟨g, 0, none⟩) cc (hV.ns ++ [⟨#[97]⟩]))).m) (.int .i64 ((Hd.mk hV.k hV.m hV.e hV.t (some ⟨g, 0, none⟩) cc (hV.ns ++ [⟨#[97]⟩]))).e) (.string ((Hd.mk hV.k hV.m hV.e hV.t (some ⟨g, 0, none⟩) cc (hV.ns ++ [⟨#[97]⟩]))).t) (.slice av (F).len c) (.slice ((Hd.mk hV.k hV.m hV.e hV.t (some ⟨g, 0, none⟩) cc (hV.ns ++ [⟨#[97]⟩]))).na (hV.ns.length + 1) ((Hd.mk hV.k hV.m hV.e hV.t (some ⟨g, 0, none⟩) cc (hV.ns ++ [⟨#[97]⟩]))).nc)
    have hb9 := R9.base_leU
    have S10 := (S9.otr HO6 hbB (fun g hg => by cases hg; omega)).mono (B1 := W.heap.size) (M' := 60) (by omega) (by omega)
    have R10 := R9.uptoU (put6_below (B := W.heap.size) (nb := W.heap.size) (o := 0) (Below.refl _ (w5.setCell ⟨vb, 5, none⟩ (.slice (some ⟨g, 0, none⟩) (hV.ns.length + 1) cc))) (Nat.le_refl _) (.int .i64 ((Hd.mk hV.k hV.m hV.e hV.t (some ⟨g, 0, none⟩) cc (hV.ns ++ [⟨#[97]⟩]))).k) (.int .i64 ((Hd.mk hV.k hV.m hV.e hV.t (some ⟨g, 0, none⟩) cc (hV.ns ++ [⟨#[97]⟩]))).m) (.int .i64 ((Hd.mk hV.k hV.m hV.e hV.t (some ⟨g, 0, none⟩) cc (hV.ns ++ [⟨#[97]⟩]))).e) (.string ((Hd.mk hV.k hV.m hV.e hV.t (some ⟨g, 0, none⟩) cc (hV.ns ++ [⟨#[97]⟩]))).t) (.slice av (F).len c) (.slice ((Hd.mk hV.k hV.m hV.e hV.t (some ⟨g, 0, none⟩) cc (hV.ns ++ [⟨#[97]⟩]))).na (hV.ns.length + 1) ((Hd.mk hV.k hV.m hV.e hV.t (some ⟨g, 0, none⟩) cc (hV.ns ++ [⟨#[97]⟩]))).nc)) hlt (by omega)
    have O10 := O9.upto (put6_below (B := W.heap.size) (nb := W.heap.size) (o := 0) (Below.refl _ (w5.setCell ⟨vb, 5, none⟩ (.slice (some ⟨g, 0, none⟩) (hV.ns.length + 1) cc))) (Nat.le_refl _) (.int .i64 ((Hd.mk hV.k hV.m hV.e hV.t (some ⟨g, 0, none⟩) cc (hV.ns ++ [⟨#[97]⟩]))).k) (.int .i64 ((Hd.mk hV.k hV.m hV.e hV.t (some ⟨g, 0, none⟩) cc (hV.ns ++ [⟨#[97]⟩]))).m) (.int .i64 ((Hd.mk hV.k hV.m hV.e hV.t (some ⟨g, 0, none⟩) cc (hV.ns ++ [⟨#[97]⟩]))).e) (.string ((Hd.mk hV.k hV.m hV.e hV.t (some ⟨g, 0, none⟩) cc (hV.ns ++ [⟨#[97]⟩]))).t) (.slice av (F).len c) (.slice ((Hd.mk hV.k hV.m hV.e hV.t (some ⟨g, 0, none⟩) cc (hV.ns ++ [⟨#[97]⟩]))).na (hV.ns.length + 1) ((Hd.mk hV.k hV.m hV.e hV.t (some ⟨g, 0, none⟩) cc (hV.ns ++ [⟨#[97]⟩]))).nc))
    have HS10 : Hid (AnyS W.heap.size 60 (put6 (w5.setCell ⟨vb, 5, none⟩ (.slice (some ⟨g, 0, none⟩) (hV.ns.length + 1) cc)) W.heap.size 0 (.int .i64 ((Hd.mk hV.k hV.m hV.e hV.t (some ⟨g, 0, none⟩) cc (hV.ns ++ [⟨#[97]⟩]))).k) (.int .i64 ((Hd.mk hV.k hV.m hV.e hV.t (some ⟨g, 0, none⟩) cc (hV.ns ++ [⟨#[97]⟩]))).m) (.int .i64 ((Hd.mk hV.k hV.m hV.e hV.t (some ⟨g, 0, none⟩) cc (hV.ns ++ [⟨#[97]⟩]))).e) (.string ((Hd.mk hV.k hV.m hV.e hV.t (some ⟨g, 0, none⟩) cc (hV.ns ++ [⟨#[97]⟩]))).t) (.slice av (F).len c) (.slice ((Hd.mk hV.k hV.m hV.e hV.t (some ⟨g, 0, none⟩) cc (hV.ns ++ [⟨#[97]⟩]))).na (hV.ns.length + 1) ((Hd.mk hV.k hV.m hV.e hV.t (some ⟨g, 0, none⟩) cc (hV.ns ++ [⟨#[97]⟩]))).nc)) ((Hd.mk hV.k hV.m hV.e hV.t (some ⟨g, 0, none⟩) cc (hV.ns ++ [⟨#[97]⟩]))) av c F ∧ Rd w0 B b a len cap _ (put6 (w5.setCell ⟨vb, 5, none⟩ (.slice (some ⟨g, 0, none⟩) (hV.ns.length + 1) cc)) W.heap.size 0 (.int .i64 ((Hd.mk hV.k hV.m hV.e hV.t (some ⟨g, 0, none⟩) cc (hV.ns ++ [⟨#[97]⟩]))).k) (.int .i64 ((Hd.mk hV.k hV.m hV.e hV.t (some ⟨g, 0, none⟩) cc (hV.ns ++ [⟨#[97]⟩]))).m) (.int .i64 ((Hd.mk hV.k hV.m hV.e hV.t (some ⟨g, 0, none⟩) cc (hV.ns ++ [⟨#[97]⟩]))).e) (.string ((Hd.mk hV.k hV.m hV.e hV.t (some ⟨g, 0, none⟩) cc (hV.ns ++ [⟨#[97]⟩]))).t) (.slice av (F).len c) (.slice ((Hd.mk hV.k hV.m hV.e hV.t (some ⟨g, 0, none⟩) cc (hV.ns ++ [⟨#[97]⟩]))).na (hV.ns.length + 1) ((Hd.mk hV.k hV.m hV.e hV.t (some ⟨g, 0, none⟩) cc (hV.ns ++ [⟨#[97]⟩]))).nc)) ∧ Otb b W (put6 (w5.setCell ⟨vb, 5, none⟩ (.slice (some ⟨g, 0, none⟩) (hV.ns.length + 1) cc)) W.heap.size 0 (.int .i64 ((Hd.mk hV.k hV.m hV.e hV.t (some ⟨g, 0, none⟩) cc (hV.ns ++ [⟨#[97]⟩]))).k) (.int .i64 ((Hd.mk hV.k hV.m hV.e hV.t (some ⟨g, 0, none⟩) cc (hV.ns ++ [⟨#[97]⟩]))).m) (.int .i64 ((Hd.mk hV.k hV.m hV.e hV.t (some ⟨g, 0, none⟩) cc (hV.ns ++ [⟨#[97]⟩]))).e) (.string ((Hd.mk hV.k hV.m hV.e hV.t (some ⟨g, 0, none⟩) cc (hV.ns ++ [⟨#[97]⟩]))).t) (.slice av (F).len c) (.slice ((Hd.mk hV.k hV.m hV.e hV.t (some ⟨g, 0, none⟩) cc (hV.ns ++ [⟨#[97]⟩]))).na (hV.ns.length + 1) ((Hd.mk hV.k hV.m hV.e hV.t (some ⟨g, 0, none⟩) cc (hV.ns ++ [⟨#[97]⟩]))).nc))) := ⟨S10, R10, O10⟩
    clear Z9 S9 R9 O9 HO6 S10 R10 O10
    )
    show bodyPost Try.prog Try.f20 _ Exit.ret _ (put6 (w5.setCell ⟨vb, 5, none⟩ (.slice (some ⟨g, 0, none⟩) (hV.ns.length + 1) cc)) W.heap.size 0 (.int .i64 ((Hd.mk hV.k hV.m hV.e hV.t (some ⟨g, 0, none⟩) cc (hV.ns ++ [⟨#[97]⟩]))).k) (.int .i64 ((Hd.mk hV.k hV.m hV.e hV.t (some ⟨g, 0, none⟩) cc (hV.ns ++ [⟨#[97]⟩]))).m) (.int .i64 ((Hd.mk hV.k hV.m hV.e hV.t (some ⟨g, 0, none⟩) cc (hV.ns ++ [⟨#[97]⟩]))).e) (.string ((Hd.mk hV.k hV.m hV.e hV.t (some ⟨g, 0, none⟩) cc (hV.ns ++ [⟨#[97]⟩]))).t) (.slice av (F).len c) (.slice ((Hd.mk hV.k hV.m hV.e hV.t (some ⟨g, 0, none⟩) cc (hV.ns ++ [⟨#[97]⟩]))).na (hV.ns.length + 1) ((Hd.mk hV.k hV.m hV.e hV.t (some ⟨g, 0, none⟩) cc (hV.ns ++ [⟨#[97]⟩]))).nc))
    generalize put6 (w5.setCell ⟨vb, 5, none⟩ (.slice (some ⟨g, 0, none⟩) (hV.ns.length + 1) cc)) W.heap.size 0 (.int .i64 ((Hd.mk hV.k hV.m hV.e hV.t (some ⟨g, 0, none⟩) cc (hV.ns ++ [⟨#[97]⟩]))).k) (.int .i64 ((Hd.mk hV.k hV.m hV.e hV.t (some ⟨g, 0, none⟩) cc (hV.ns ++ [⟨#[97]⟩]))).m) (.int .i64 ((Hd.mk hV.k hV.m hV.e hV.t (some ⟨g, 0, none⟩) cc (hV.ns ++ [⟨#[97]⟩]))).e) (.string ((Hd.mk hV.k hV.m hV.e hV.t (some ⟨g, 0, none⟩) cc (hV.ns ++ [⟨#[97]⟩]))).t) (.slice av (F).len c) (.slice ((Hd.mk hV.k hV.m hV.e hV.t (some ⟨g, 0, none⟩) cc (hV.ns ++ [⟨#[97]⟩]))).na (hV.ns.length + 1) ((Hd.mk hV.k hV.m hV.e hV.t (some ⟨g, 0, none⟩) cc (hV.ns ++ [⟨#[97]⟩]))).nc) = W6 at *
    have y0 := (HP6 0 _ rfl).1
    have y1 := (HP6 1 _ rfl).1
    have y2 := (HP6 2 _ rfl).1
    have y3 := (HP6 3 _ rfl).1
    have y4 := (HP6 4 _ rfl).1
    have y5 := (HP6 5 _ rfl).1
    obtain ⟨z1, z2, z3⟩ := HS10.out
    refine bodyPost_ret (v := valV ((Hd.mk hV.k hV.m hV.e hV.t (some ⟨g, 0, none⟩) cc (hV.ns ++ [⟨#[97]⟩]))) av (F).len c) (by simp [results, Try.results20, go_sem, y0, y1, y2, y3, y4, y5]) rfl (by first | exact ⟨(Hd.mk hV.k hV.m hV.e hV.t (some ⟨g, 0, none⟩) cc (hV.ns ++ [⟨#[97]⟩])), F, av, c, _, rfl, z1, by omega, z2, z3⟩ | exact ⟨(Hd.mk hV.k hV.m hV.e hV.t (some ⟨g, 0, none⟩) cc (hV.ns ++ [⟨#[97]⟩])), F, av, c, rfl, z1, _, by omega, z2, z3⟩)
  · skip
    obtain ⟨t0, f0⟩ := V4 0 _ rfl
    obtain ⟨t1, f1⟩ := V4 1 _ rfl
    obtain ⟨t2, f2⟩ := V4 2 _ rfl
    obtain ⟨t3, f3⟩ := V4 3 _ rfl
    obtain ⟨t4, f4⟩ := V4 4 _ rfl
    obtain ⟨t5, f5⟩ := V4 5 _ rfl
    have Z9 := ((Z4).setOther (j := vb) (by have := HZ2.out; omega) 1 (.int .i64 10)).setOther (j := vb) (by have := HZ2.out; omega) 2 (.int .i64 0)
    have R9 := ((R4).set (j := vb) (o := 1) (by have := HZ2.out; have := R4.base_leU; omega) (by omega) (.int .i64 10)).set (j := vb) (o := 2) (by have := HZ2.out; have := R4.base_leU; omega) (by omega) (.int .i64 0)
    have O9 := ((O4).set (j := vb) (o := 1) (by have := HZ2.out; omega) (.int .i64 10)).set (j := vb) (o := 2) (by have := HZ2.out; omega) (.int .i64 0)
    have S9 := (((S4.any (by omega)).put (o := 1) hbB HFn.out (.int .i64 10)).put (o := 2) hbB HFn.out (.int .i64 0)).head hV.k 10 0 hV.t S4.1.2.2.1 (.inl rfl)
    clear V4 Z4 O4 S4 R4
    obtain ⟨r0, g0⟩ := Z9 0 _ rfl
    obtain ⟨r1, g1⟩ := Z9 1 _ rfl
    obtain ⟨r2, g2⟩ := Z9 2 _ rfl
    obtain ⟨r3, g3⟩ := Z9 3 _ rfl
    obtain ⟨r4, g4⟩ := Z9 4 _ rfl
    obtain ⟨r5, g5⟩ := Z9 5 _ rfl
    have HP6 := Row.put6 (v0 := .int .i64 ((Hd.mk hV.k 10 0 hV.t hV.na hV.nc hV.ns)).k) (v1 := .int .i64 ((Hd.mk hV.k 10 0 hV.t hV.na hV.nc hV.ns)).m) (v2 := .int .i64 ((Hd.mk hV.k 10 0 hV.t hV.na hV.nc hV.ns)).e) (v3 := .string ((Hd.mk hV.k 10 0 hV.t hV.na hV.nc hV.ns)).t) (v4 := .slice av (F).len c) (v5 := .slice ((Hd.mk hV.k 10 0 hV.t hV.na hV.nc hV.ns)).na ((Hd.mk hV.k 10 0 hV.t hV.na hV.nc hV.ns)).ns.length ((Hd.mk hV.k 10 0 hV.t hV.na hV.nc hV.ns)).nc) Z9
    have HO6 := Otr.put6 b (j := W.heap.size) (o := 0) ((w4.setCell ⟨vb, 1, none⟩ (.int .i64 10)).setCell ⟨vb, 2, none⟩ (.int .i64 0)) (.int .i64 ((Hd.mk hV.k 10 0 hV.t hV.na hV.nc hV.ns)).k) (.int .i64 ((Hd.mk hV.k 10 0 hV.t hV.na hV.nc hV.ns)).m) (.int .i64 ((Hd.mk hV.k 10 0 hV.t hV.na hV.nc hV.ns)).e) (.string ((Hd.mk hV.k 10 0 hV.t hV.na hV.nc hV.ns)).t) (.slice av (F).len c) (.slice ((Hd.mk hV.k 10 0 hV.t hV.na hV.nc hV.ns)).na ((Hd.mk hV.k 10 0 hV.t hV.na hV.nc hV.ns)).ns.length ((Hd.mk hV.k 10 0 hV.t hV.na hV.nc hV.ns)).nc)
    have hb9 := R9.base_leU
    have S10 := (S9.otr HO6 hbB (fun g hg => by cases hg; omega)).mono (B1 := W.heap.size) (M' := 60) (by omega) (by omega)
    have R10 := R9.uptoU (put6_below (B := W.heap.size) (nb := W.heap.size) (o := 0) (Below.refl _ ((w4.setCell ⟨vb, 1, none⟩ (.int .i64 10)).setCell ⟨vb, 2, none⟩ (.int .i64 0))) (Nat.le_refl _) (.int .i64 ((Hd.mk hV.k 10 0 hV.t hV.na hV.nc hV.ns)).k) (.int .i64 ((Hd.mk hV.k 10 0 hV.t hV.na hV.nc hV.ns)).m) (.int .i64 ((Hd.mk hV.k 10 0 hV.t hV.na hV.nc hV.ns)).e) (.string ((Hd.mk hV.k 10 0 hV.t hV.na hV.nc hV.ns)).t) (.slice av (F).len c) (.slice ((Hd.mk hV.k 10 0 hV.t hV.na hV.nc hV.ns)).na ((Hd.mk hV.k 10 0 hV.t hV.na hV.nc hV.ns)).ns.length ((Hd.mk hV.k 10 0 hV.t hV.na hV.nc hV.ns)).nc)) hlt (by omega)
    have O10 := O9.upto (put6_below (B := W.heap.size) (nb := W.heap.size) (o := 0) (Below.refl _ ((w4.setCell ⟨vb, 1, none⟩ (.int .i64 10)).setCell ⟨vb, 2, none⟩ (.int .i64 0))) (Nat.le_refl _) (.int .i64 ((Hd.mk hV.k 10 0 hV.t hV.na hV.nc hV.ns)).k) (.int .i64 ((Hd.mk hV.k 10 0 hV.t hV.na hV.nc hV.ns)).m) (.int .i64 ((Hd.mk hV.k 10 0 hV.t hV.na hV.nc hV.ns)).e) (.string ((Hd.mk hV.k 10 0 hV.t hV.na hV.nc hV.ns)).t) (.slice av (F).len c) (.slice ((Hd.mk hV.k 10 0 hV.t hV.na hV.nc hV.ns)).na ((Hd.mk hV.k 10 0 hV.t hV.na hV.nc hV.ns)).ns.length ((Hd.mk hV.k 10 0 hV.t hV.na hV.nc hV.ns)).nc))
    have HS10 : Hid (AnyS W.heap.size 60 (put6 ((w4.setCell ⟨vb, 1, none⟩ (.int .i64 10)).setCell ⟨vb, 2, none⟩ (.int .i64 0)) W.heap.size 0 (.int .i64 ((Hd.mk hV.k 10 0 hV.t hV.na hV.nc hV.ns)).k) (.int .i64 ((Hd.mk hV.k 10 0 hV.t hV.na hV.nc hV.ns)).m) (.int .i64 ((Hd.mk hV.k 10 0 hV.t hV.na hV.nc hV.ns)).e) (.string ((Hd.mk hV.k 10 0 hV.t hV.na hV.nc hV.ns)).t) (.slice av (F).len c) (.slice ((Hd.mk hV.k 10 0 hV.t hV.na hV.nc hV.ns)).na ((Hd.mk hV.k 10 0 hV.t hV.na hV.nc hV.ns)).ns.length ((Hd.mk hV.k 10 0 hV.t hV.na hV.nc hV.ns)).nc)) ((Hd.mk hV.k 10 0 hV.t hV.na hV.nc hV.ns)) av c F ∧ Rd w0 B b a len cap _ (put6 ((w4.setCell ⟨vb, 1, none⟩ (.int .i64 10)).setCell ⟨vb, 2, none⟩ (.int .i64 0)) W.heap.size 0 (.int .i64 ((Hd.mk hV.k 10 0 hV.t hV.na hV.nc hV.ns)).k) (.int .i64 ((Hd.mk hV.k 10 0 hV.t hV.na hV.nc hV.ns)).m) (.int .i64 ((Hd.mk hV.k 10 0 hV.t hV.na hV.nc hV.ns)).e) (.string ((Hd.mk hV.k 10 0 hV.t hV.na hV.nc hV.ns)).t) (.slice av (F).len c) (.slice ((Hd.mk hV.k 10 0 hV.t hV.na hV.nc hV.ns)).na ((Hd.mk hV.k 10 0 hV.t hV.na hV.nc hV.ns)).ns.length ((Hd.mk hV.k 10 0 hV.t hV.na hV.nc hV.ns)).nc)) ∧ Otb b W (put6 ((w4.setCell ⟨vb, 1, none⟩ (.int .i64 10)).setCell ⟨vb, 2, none⟩ (.int .i64 0)) W.heap.size 0 (.int .i64 ((Hd.mk hV.k 10 0 hV.t hV.na hV.nc hV.ns)).k) (.int .i64 ((Hd.mk hV.k 10 0 hV.t hV.na hV.nc hV.ns)).m) (.int .i64 ((Hd.mk hV.k 10 0 hV.t hV.na hV.nc hV.ns)).e) (.string ((Hd.mk hV.k 10 0 hV.t hV.na hV.nc hV.ns)).t) (.slice av (F).len c) (.slice ((Hd.mk hV.k 10 0 hV.t hV.na hV.nc hV.ns)).na ((Hd.mk hV.k 10 0 hV.t hV.na hV.nc hV.ns)).ns.length ((Hd.mk hV.k 10 0 hV.t hV.na hV.nc hV.ns)).nc))) := ⟨S10, R10, O10⟩
    clear Z9 S9 R9 O9 HO6 S10 R10 O10
    go_wp2_with fail
    show bodyPost Try.prog Try.f20 _ Exit.ret _ (put6 ((w4.setCell ⟨vb, 1, none⟩ (.int .i64 10)).setCell ⟨vb, 2, none⟩ (.int .i64 0)) W.heap.size 0 (.int .i64 ((Hd.mk hV.k 10 0 hV.t hV.na hV.nc hV.ns)).k) (.int .i64 ((Hd.mk hV.k 10 0 hV.t hV.na hV.nc hV.ns)).m) (.int .i64 ((Hd.mk hV.k 10 0 hV.t hV.na hV.nc hV.ns)).e) (.string ((Hd.mk hV.k 10 0 hV.t hV.na hV.nc hV.ns)).t) (.slice av (F).len c) (.slice ((Hd.mk hV.k 10 0 hV.t hV.na hV.nc hV.ns)).na ((Hd.mk hV.k 10 0 hV.t hV.na hV.nc hV.ns)).ns.length ((Hd.mk hV.k 10 0 hV.t hV.na hV.nc hV.ns)).nc))
    generalize put6 ((w4.setCell ⟨vb, 1, none⟩ (.int .i64 10)).setCell ⟨vb, 2, none⟩ (.int .i64 0)) W.heap.size 0 (.int .i64 ((Hd.mk hV.k 10 0 hV.t hV.na hV.nc hV.ns)).k) (.int .i64 ((Hd.mk hV.k 10 0 hV.t hV.na hV.nc hV.ns)).m) (.int .i64 ((Hd.mk hV.k 10 0 hV.t hV.na hV.nc hV.ns)).e) (.string ((Hd.mk hV.k 10 0 hV.t hV.na hV.nc hV.ns)).t) (.slice av (F).len c) (.slice ((Hd.mk hV.k 10 0 hV.t hV.na hV.nc hV.ns)).na ((Hd.mk hV.k 10 0 hV.t hV.na hV.nc hV.ns)).ns.length ((Hd.mk hV.k 10 0 hV.t hV.na hV.nc hV.ns)).nc) = W6 at *
    have y0 := (HP6 0 _ rfl).1
    have y1 := (HP6 1 _ rfl).1
    have y2 := (HP6 2 _ rfl).1
    have y3 := (HP6 3 _ rfl).1
    have y4 := (HP6 4 _ rfl).1
    have y5 := (HP6 5 _ rfl).1
    obtain ⟨z1, z2, z3⟩ := HS10.out
    refine bodyPost_ret (v := valV ((Hd.mk hV.k 10 0 hV.t hV.na hV.nc hV.ns)) av (F).len c) (by simp [results, Try.results20, go_sem, y0, y1, y2, y3, y4, y5]) rfl (by first | exact ⟨(Hd.mk hV.k 10 0 hV.t hV.na hV.nc hV.ns), F, av, c, _, rfl, z1, by omega, z2, z3⟩ | exact ⟨(Hd.mk hV.k 10 0 hV.t hV.na hV.nc hV.ns), F, av, c, rfl, z1, _, by omega, z2, z3⟩)
  · skip
    obtain ⟨t0, f0⟩ := V4 0 _ rfl
    obtain ⟨t1, f1⟩ := V4 1 _ rfl
    obtain ⟨t2, f2⟩ := V4 2 _ rfl
    obtain ⟨t3, f3⟩ := V4 3 _ rfl
    obtain ⟨t4, f4⟩ := V4 4 _ rfl
    obtain ⟨t5, f5⟩ := V4 5 _ rfl
    have Z9 := (Z4).setOther (j := vb) (by have := HZ2.out; omega) 3 (.string ⟨#[120]⟩)
    have R9 := (R4).set (j := vb) (o := 3) (by have := HZ2.out; have := R4.base_leU; omega) (by omega) (.string ⟨#[120]⟩)
    have O9 := (O4).set (j := vb) (o := 3) (by have := HZ2.out; omega) (.string ⟨#[120]⟩)
    have S9 := ((S4.any (by omega)).put (o := 3) hbB HFn.out (.string ⟨#[120]⟩)).head hV.k hV.m hV.e ⟨#[120]⟩ (by decide) (.inl rfl)
    clear V4 Z4 O4 S4 R4
    obtain ⟨r0, g0⟩ := Z9 0 _ rfl
    obtain ⟨r1, g1⟩ := Z9 1 _ rfl
    obtain ⟨r2, g2⟩ := Z9 2 _ rfl
    obtain ⟨r3, g3⟩ := Z9 3 _ rfl
    obtain ⟨r4, g4⟩ := Z9 4 _ rfl
    obtain ⟨r5, g5⟩ := Z9 5 _ rfl
    have HP6 := Row.put6 (v0 := .int .i64 ((Hd.mk hV.k hV.m hV.e ⟨#[120]⟩ hV.na hV.nc hV.ns)).k) (v1 := .int .i64 ((Hd.mk hV.k hV.m hV.e ⟨#[120]⟩ hV.na hV.nc hV.ns)).m) (v2 := .int .i64 ((Hd.mk hV.k hV.m hV.e ⟨#[120]⟩ hV.na hV.nc hV.ns)).e) (v3 := .string ((Hd.mk hV.k hV.m hV.e ⟨#[120]⟩ hV.na hV.nc hV.ns)).t) (v4 := .slice av (F).len c) (v5 := .slice ((Hd.mk hV.k hV.m hV.e ⟨#[120]⟩ hV.na hV.nc hV.ns)).na ((Hd.mk hV.k hV.m hV.e ⟨#[120]⟩ hV.na hV.nc hV.ns)).ns.length ((Hd.mk hV.k hV.m hV.e ⟨#[120]⟩ hV.na hV.nc hV.ns)).nc) Z9
    have HO6 := Otr.put6 b (j := W.heap.size) (o := 0) (w4.setCell ⟨vb, 3, none⟩ (.string ⟨#[120]⟩)) (.int .i64 ((Hd.mk hV.k hV.m hV.e ⟨#[120]⟩ hV.na hV.nc hV.ns)).k) (.int .i64 ((Hd.mk hV.k hV.m hV.e ⟨#[120]⟩ hV.na hV.nc hV.ns)).m) (.int .i64 ((Hd.mk hV.k hV.m hV.e ⟨#[120]⟩ hV.na hV.nc hV.ns)).e) (.string ((Hd.mk hV.k hV.m hV.e ⟨#[120]⟩ hV.na hV.nc hV.ns)).t) (.slice av (F).len c) (.slice ((Hd.mk hV.k hV.m hV.e ⟨#[120]⟩ hV.na hV.nc hV.ns)).na ((Hd.mk hV.k hV.m hV.e ⟨#[120]⟩ hV.na hV.nc hV.ns)).ns.length ((Hd.mk hV.k hV.m hV.e ⟨#[120]⟩ hV.na hV.nc hV.ns)).nc)
    have hb9 := R9.base_leU
    have S10 := (S9.otr HO6 hbB (fun g hg => by cases hg; omega)).mono (B1 := W.heap.size) (M' := 60) (by omega) (by omega)
    have R10 := R9.uptoU (put6_below (B := W.heap.size) (nb := W.heap.size) (o := 0) (Below.refl _ (w4.setCell ⟨vb, 3, none⟩ (.string ⟨#[120]⟩))) (Nat.le_refl _) (.int .i64 ((Hd.mk hV.k hV.m hV.e ⟨#[120]⟩ hV.na hV.nc hV.ns)).k) (.int .i64 ((Hd.mk hV.k hV.m hV.e ⟨#[120]⟩ hV.na hV.nc hV.ns)).m) (.int .i64 ((Hd.mk hV.k hV.m hV.e ⟨#[120]⟩ hV.na hV.nc hV.ns)).e) (.string ((Hd.mk hV.k hV.m hV.e ⟨#[120]⟩ hV.na hV.nc hV.ns)).t) (.slice av (F).len c) (.slice ((Hd.mk hV.k hV.m hV.e ⟨#[120]⟩ hV.na hV.nc hV.ns)).na ((Hd.mk hV.k hV.m hV.e ⟨#[120]⟩ hV.na hV.nc hV.ns)).ns.length ((Hd.mk hV.k hV.m hV.e ⟨#[120]⟩ hV.na hV.nc hV.ns)).nc)) hlt (by omega)
    have O10 := O9.upto (put6_below (B := W.heap.size) (nb := W.heap.size) (o := 0) (Below.refl _ (w4.setCell ⟨vb, 3, none⟩ (.string ⟨#[120]⟩))) (Nat.le_refl _) (.int .i64 ((Hd.mk hV.k hV.m hV.e ⟨#[120]⟩ hV.na hV.nc hV.ns)).k) (.int .i64 ((Hd.mk hV.k hV.m hV.e ⟨#[120]⟩ hV.na hV.nc hV.ns)).m) (.int .i64 ((Hd.mk hV.k hV.m hV.e ⟨#[120]⟩ hV.na hV.nc hV.ns)).e) (.string ((Hd.mk hV.k hV.m hV.e ⟨#[120]⟩ hV.na hV.nc hV.ns)).t) (.slice av (F).len c) (.slice ((Hd.mk hV.k hV.m hV.e ⟨#[120]⟩ hV.na hV.nc hV.ns)).na ((Hd.mk hV.k hV.m hV.e ⟨#[120]⟩ hV.na hV.nc hV.ns)).ns.length ((Hd.mk hV.k hV.m hV.e ⟨#[120]⟩ hV.na hV.nc hV.ns)).nc))
    have HS10 : Hid (AnyS W.heap.size 60 (put6 (w4.setCell ⟨vb, 3, none⟩ (.string ⟨#[120]⟩)) W.heap.size 0 (.int .i64 ((Hd.mk hV.k hV.m hV.e ⟨#[120]⟩ hV.na hV.nc hV.ns)).k) (.int .i64 ((Hd.mk hV.k hV.m hV.e ⟨#[120]⟩ hV.na hV.nc hV.ns)).m) (.int .i64 ((Hd.mk hV.k hV.m hV.e ⟨#[120]⟩ hV.na hV.nc hV.ns)).e) (.string ((Hd.mk hV.k hV.m hV.e ⟨#[120]⟩ hV.na hV.nc hV.ns)).t) (.slice av (F).len c) (.slice ((Hd.mk hV.k hV.m hV.e ⟨#[120]⟩ hV.na hV.nc hV.ns)).na ((Hd.mk hV.k hV.m hV.e ⟨#[120]⟩ hV.na hV.nc hV.ns)).ns.length ((Hd.mk hV.k hV.m hV.e ⟨#[120]⟩ hV.na hV.nc hV.ns)).nc)) ((Hd.mk hV.k hV.m hV.e ⟨#[120]⟩ hV.na hV.nc hV.ns)) av c F ∧ Rd w0 B b a len cap _ (put6 (w4.setCell ⟨vb, 3, none⟩ (.string ⟨#[120]⟩)) W.heap.size 0 (.int .i64 ((Hd.mk hV.k hV.m hV.e ⟨#[120]⟩ hV.na hV.nc hV.ns)).k) (.int .i64 ((Hd.mk hV.k hV.m hV.e ⟨#[120]⟩ hV.na hV.nc hV.ns)).m) (.int .i64 ((Hd.mk hV.k hV.m hV.e ⟨#[120]⟩ hV.na hV.nc hV.ns)).e) (.string ((Hd.mk hV.k hV.m hV.e ⟨#[120]⟩ hV.na hV.nc hV.ns)).t) (.slice av (F).len c) (.slice ((Hd.mk hV.k hV.m hV.e ⟨#[120]⟩ hV.na hV.nc hV.ns)).na ((Hd.mk hV.k hV.m hV.e ⟨#[120]⟩ hV.na hV.nc hV.ns)).ns.length ((Hd.mk hV.k hV.m hV.e ⟨#[120]⟩ hV.na hV.nc hV.ns)).nc)) ∧ Otb b W (put6 (w4.setCell ⟨vb, 3, none⟩ (.string ⟨#[120]⟩)) W.heap.size 0 (.int .i64 ((Hd.mk hV.k hV.m hV.e ⟨#[120]⟩ hV.na hV.nc hV.ns)).k) (.int .i64 ((Hd.mk hV.k hV.m hV.e ⟨#[120]⟩ hV.na hV.nc hV.ns)).m) (.int .i64 ((Hd.mk hV.k hV.m hV.e ⟨#[120]⟩ hV.na hV.nc hV.ns)).e) (.string ((Hd.mk hV.k hV.m hV.e ⟨#[120]⟩ hV.na hV.nc hV.ns)).t) (.slice av (F).len c) (.slice ((Hd.mk hV.k hV.m hV.e ⟨#[120]⟩ hV.na hV.nc hV.ns)).na ((Hd.mk hV.k hV.m hV.e ⟨#[120]⟩ hV.na hV.nc hV.ns)).ns.length ((Hd.mk hV.k hV.m hV.e ⟨#[120]⟩ hV.na hV.nc hV.ns)).nc))) := ⟨S10, R10, O10⟩
    clear Z9 S9 R9 O9 HO6 S10 R10 O10
    go_wp2_with fail
    show bodyPost Try.prog Try.f20 _ Exit.ret _ (put6 (w4.setCell ⟨vb, 3, none⟩ (.string ⟨#[120]⟩)) W.heap.size 0 (.int .i64 ((Hd.mk hV.k hV.m hV.e ⟨#[120]⟩ hV.na hV.nc hV.ns)).k) (.int .i64 ((Hd.mk hV.k hV.m hV.e ⟨#[120]⟩ hV.na hV.nc hV.ns)).m) (.int .i64 ((Hd.mk hV.k hV.m hV.e ⟨#[120]⟩ hV.na hV.nc hV.ns)).e) (.string ((Hd.mk hV.k hV.m hV.e ⟨#[120]⟩ hV.na hV.nc hV.ns)).t) (.slice av (F).len c) (.slice ((Hd.mk hV.k hV.m hV.e ⟨#[120]⟩ hV.na hV.nc hV.ns)).na ((Hd.mk hV.k hV.m hV.e ⟨#[120]⟩ hV.na hV.nc hV.ns)).ns.length ((Hd.mk hV.k hV.m hV.e ⟨#[120]⟩ hV.na hV.nc hV.ns)).nc))
    generalize put6 (w4.setCell ⟨vb, 3, none⟩ (.string ⟨#[120]⟩)) W.heap.size 0 (.int .i64 ((Hd.mk hV.k hV.m hV.e ⟨#[120]⟩ hV.na hV.nc hV.ns)).k) (.int .i64 ((Hd.mk hV.k hV.m hV.e ⟨#[120]⟩ hV.na hV.nc hV.ns)).m) (.int .i64 ((Hd.mk hV.k hV.m hV.e ⟨#[120]⟩ hV.na hV.nc hV.ns)).e) (.string ((Hd.mk hV.k hV.m hV.e ⟨#[120]⟩ hV.na hV.nc hV.ns)).t) (.slice av (F).len c) (.slice ((Hd.mk hV.k hV.m hV.e ⟨#[120]⟩ hV.na hV.nc hV.ns)).na ((Hd.mk hV.k hV.m hV.e ⟨#[120]⟩ hV.na hV.nc hV.ns)).ns.length ((Hd.mk hV.k hV.m hV.e ⟨#[120]⟩ hV.na hV.nc hV.ns)).nc) = W6 at *
    have y0 := (HP6 0 _ rfl).1
    have y1 := (HP6 1 _ rfl).1
    have y2 := (HP6 2 _ rfl).1
    have y3 := (HP6 3 _ rfl).1
    have y4 := (HP6 4 _ rfl).1
    have y5 := (HP6 5 _ rfl).1
    obtain ⟨z1, z2, z3⟩ := HS10.out
    refine bodyPost_ret (v := valV ((Hd.mk hV.k hV.m hV.e ⟨#[120]⟩ hV.na hV.nc hV.ns)) av (F).len c) (by simp [results, Try.results20, go_sem, y0, y1, y2, y3, y4, y5]) rfl (by first | exact ⟨(Hd.mk hV.k hV.m hV.e ⟨#[120]⟩ hV.na hV.nc hV.ns), F, av, c, _, rfl, z1, by omega, z2, z3⟩ | exact ⟨(Hd.mk hV.k hV.m hV.e ⟨#[120]⟩ hV.na hV.nc hV.ns), F, av, c, rfl, z1, _, by omega, z2, z3⟩)
  · go_wp2_with fail
    have S5 := S4.any (by omega)
    go_loopw [4] (fun i wr => ∃ (n : Nat) (hh : Hd) (FF : Vo) (aa : Option Addr) (cc : Nat), i = .int .i64 n ∧ n ≤ 20 ∧ (Row wr vb (six hh aa FF.len cc) ∧ Row wr W.heap.size zero6 ∧ AnyS (W.heap.size + 1) (39 + n) wr hh aa cc FF ∧ (oneV hh aa cc FF).Blk (fun x => ¬ x = vb) ∧ Rd w0 B b a len cap (p2 + 1) wr ∧ Otb b W wr ∧ vb < wr.heap.size)) (fun i _ => 20 - (intOf i).toNat)
    case atStart => exact ⟨0, hV, F, av, c, rfl, by omega, V4, Z4, S5, HFn.out, R4, O4, hz4⟩
    case round =>
      clear V4 Z4 S4 S5 R4 O4 hz4
      obtain ⟨n, hh, FF, aa, cc, rfl, hn, V4, Z4, S4, hFf, R4, O4, hz4⟩ := hrel
      have HF5 : Hid ((oneV hh aa cc FF).Blk (fun x => ¬ x = vb)) := hFf
      clear hFf
      by_cases hlt20 : (n : Int) < 20
      · have hn20 : n < 20 := by omega
        obtain ⟨t0, f0⟩ := V4 0 _ rfl
        obtain ⟨t1, f1⟩ := V4 1 _ rfl
        obtain ⟨t2, f2⟩ := V4 2 _ rfl
        obtain ⟨t3, f3⟩ := V4 3 _ rfl
        obtain ⟨t4, f4⟩ := V4 4 _ rfl
        obtain ⟨t5, f5⟩ := V4 5 _ rfl
        have hbp : Below W.heap.size wr (put6 wr vb 0 (.int .i64 5) (.int .i64 0) (.int .i64 0) (.string ⟨#[]⟩) (.slice (some ⟨wr.heap.size, 0, none⟩) 1 1) (.slice none 0 0)) := put6_below (Below.refl _ _) (by have := HZ2.out; omega) _ _ _ _ _ _
        have hba : Below (put6 wr vb 0 (.int .i64 5) (.int .i64 0) (.int .i64 0) (.string ⟨#[]⟩) (.slice (some ⟨wr.heap.size, 0, none⟩) 1 1) (.slice none 0 0)).heap.size (put6 wr vb 0 (.int .i64 5) (.int .i64 0) (.int .i64 0) (.string ⟨#[]⟩) (.slice (some ⟨wr.heap.size, 0, none⟩) 1 1) (.slice none 0 0)) ((put6 wr vb 0 (.int .i64 5) (.int .i64 0) (.int .i64 0) (.string ⟨#[]⟩) (.slice (some ⟨wr.heap.size, 0, none⟩) 1 1) (.slice none 0 0)).alloc (.cells #[.int .i64 hh.k, .int .i64 hh.m, .int .i64 hh.e, .string hh.t, .slice aa FF.len cc, .slice hh.na hh.ns.length hh.nc] 28)) := (Below.refl _ _).alloc (Nat.le_refl _) _
        have hPo := Otr.put6 b (j := vb) (o := 0) wr (.int .i64 5) (.int .i64 0) (.int .i64 0) (.string ⟨#[]⟩) (.slice (some ⟨wr.heap.size, 0, none⟩) 1 1) (.slice none 0 0)
        have hsz6 : (put6 wr vb 0 (.int .i64 5) (.int .i64 0) (.int .i64 0) (.string ⟨#[]⟩) (.slice (some ⟨wr.heap.size, 0, none⟩) 1 1) (.slice none 0 0)).heap.size = wr.heap.size := put6_size
        have V6 : Row ((put6 wr vb 0 (.int .i64 5) (.int .i64 0) (.int .i64 0) (.string ⟨#[]⟩) (.slice (some ⟨wr.heap.size, 0, none⟩) 1 1) (.slice none 0 0)).alloc (.cells #[.int .i64 hh.k, .int .i64 hh.m, .int .i64 hh.e, .string hh.t, .slice aa FF.len cc, .slice hh.na hh.ns.length hh.nc] 28)) vb (six (hdK 5) (some ⟨wr.heap.size, 0, none⟩) 1 1) := (Row.put6 V4).below hba (by rw [hsz6]; exact hz4)
        have Z6 : Row ((put6 wr vb 0 (.int .i64 5) (.int .i64 0) (.int .i64 0) (.string ⟨#[]⟩) (.slice (some ⟨wr.heap.size, 0, none⟩) 1 1) (.slice none 0 0)).alloc (.cells #[.int .i64 hh.k, .int .i64 hh.m, .int .i64 hh.e, .string hh.t, .slice aa FF.len cc, .slice hh.na hh.ns.length hh.nc] 28)) W.heap.size zero6 := (hPo.row hne (fun e => by have := Option.some.inj e; have := HZ2.out; omega) Z4).below hba (by rw [hsz6]; have := HZ2.out; omega)
        have S6 := S4.otr2 hPo hbB (blk_ne HF5.out)
        have hcs : ((put6 wr vb 0 (.int .i64 5) (.int .i64 0) (.int .i64 0) (.string ⟨#[]⟩) (.slice (some ⟨wr.heap.size, 0, none⟩) 1 1) (.slice none 0 0)).alloc (.cells #[.int .i64 hh.k, .int .i64 hh.m, .int .i64 hh.e, .string hh.t, .slice aa FF.len cc, .slice hh.na hh.ns.length hh.nc] 28)).heap[wr.heap.size]? = some (.cells (six hh aa FF.len cc).toArray 28 (0, 0)) := by have e := heap_alloc_new (put6 wr vb 0 (.int .i64 5) (.int .i64 0) (.int .i64 0) (.string ⟨#[]⟩) (.slice (some ⟨wr.heap.size, 0, none⟩) 1 1) (.slice none 0 0)) (.cells #[.int .i64 hh.k, .int .i64 hh.m, .int .i64 hh.e, .string hh.t, .slice aa FF.len cc, .slice hh.na hh.ns.length hh.nc] 28); rw [hsz6] at e; exact e
        have S7 := S6.wrap hba (by have := HZ2.out; omega) _ hcs
        have F7 : (oneV (hdK 5) (some (⟨wr.heap.size, 0, none⟩ : Addr)) 1 (oneV hh aa cc FF)).Blk (fun x => ¬ x = vb) := ⟨.inl rfl, .inr ⟨_, 0, rfl, by omega⟩, HF5.out, trivial⟩
        have R6 := (R4.uptoU hbp hlt (by have := R4.base_leU; omega)).below hba
        have O6 := (O4.upto hbp).below hba
        have hz6 : vb < ((put6 wr vb 0 (.int .i64 5) (.int .i64 0) (.int .i64 0) (.string ⟨#[]⟩) (.slice (some ⟨wr.heap.size, 0, none⟩) 1 1) (.slice none 0 0)).alloc (.cells #[.int .i64 hh.k, .int .i64 hh.m, .int .i64 hh.e, .string hh.t, .slice aa FF.len cc, .slice hh.na hh.ns.length hh.nc] 28)).heap.size := Nat.lt_of_lt_of_le (by rw [hsz6]; exact hz4) hba.size
        have HN : Hid (Row ((put6 wr vb 0 (.int .i64 5) (.int .i64 0) (.int .i64 0) (.string ⟨#[]⟩) (.slice (some ⟨wr.heap.size, 0, none⟩) 1 1) (.slice none 0 0)).alloc (.cells #[.int .i64 hh.k, .int .i64 hh.m, .int .i64 hh.e, .string hh.t, .slice aa FF.len cc, .slice hh.na hh.ns.length hh.nc] 28)) vb (six (hdK 5) (some ⟨wr.heap.size, 0, none⟩) (oneV hh aa cc FF).len 1) ∧ Row ((put6 wr vb 0 (.int .i64 5) (.int .i64 0) (.int .i64 0) (.string ⟨#[]⟩) (.slice (some ⟨wr.heap.size, 0, none⟩) 1 1) (.slice none 0 0)).alloc (.cells #[.int .i64 hh.k, .int .i64 hh.m, .int .i64 hh.e, .string hh.t, .slice aa FF.len cc, .slice hh.na hh.ns.length hh.nc] 28)) W.heap.size zero6 ∧ AnyS (W.heap.size + 1) (39 + n + 1) ((put6 wr vb 0 (.int .i64 5) (.int .i64 0) (.int .i64 0) (.string ⟨#[]⟩) (.slice (some ⟨wr.heap.size, 0, none⟩) 1 1) (.slice none 0 0)).alloc (.cells #[.int .i64 hh.k, .int .i64 hh.m, .int .i64 hh.e, .string hh.t, .slice aa FF.len cc, .slice hh.na hh.ns.length hh.nc] 28)) (hdK 5) (some ⟨wr.heap.size, 0, none⟩) 1 (oneV hh aa cc FF) ∧ (oneV (hdK 5) (some (⟨wr.heap.size, 0, none⟩ : Addr)) 1 (oneV hh aa cc FF)).Blk (fun x => ¬ x = vb) ∧ Rd w0 B b a len cap (p2 + 1) ((put6 wr vb 0 (.int .i64 5) (.int .i64 0) (.int .i64 0) (.string ⟨#[]⟩) (.slice (some ⟨wr.heap.size, 0, none⟩) 1 1) (.slice none 0 0)).alloc (.cells #[.int .i64 hh.k, .int .i64 hh.m, .int .i64 hh.e, .string hh.t, .slice aa FF.len cc, .slice hh.na hh.ns.length hh.nc] 28)) ∧ Otb b W ((put6 wr vb 0 (.int .i64 5) (.int .i64 0) (.int .i64 0) (.string ⟨#[]⟩) (.slice (some ⟨wr.heap.size, 0, none⟩) 1 1) (.slice none 0 0)).alloc (.cells #[.int .i64 hh.k, .int .i64 hh.m, .int .i64 hh.e, .string hh.t, .slice aa FF.len cc, .slice hh.na hh.ns.length hh.nc] 28)) ∧ vb < ((put6 wr vb 0 (.int .i64 5) (.int .i64 0) (.int .i64 0) (.string ⟨#[]⟩) (.slice (some ⟨wr.heap.size, 0, none⟩) 1 1) (.slice none 0 0)).alloc (.cells #[.int .i64 hh.k, .int .i64 hh.m, .int .i64 hh.e, .string hh.t, .slice aa FF.len cc, .slice hh.na hh.ns.length hh.nc] 28)).heap.size) := ⟨V6, Z6, S7, F7, R6, O6, hz6⟩
        clear V4 Z4 S4 R4 O4 hbp hba hPo hsz6 V6 Z6 S6 hcs S7 F7 R6 O6 hz6
        go_wp2_with fail
        refine ⟨?_, ?_⟩
        · obtain ⟨n1, n2, n3, n4, n5, n6, n7⟩ := HN.out
          exact ⟨n + 1, hdK 5, oneV hh aa cc FF, some ⟨wr.heap.size, 0, none⟩, 1, rfl, by omega, n1, n2, n3, n4, n5, n6, n7⟩
        · simp [intOf]; omega
      · have hn20 : n = 20 := by omega
        obtain ⟨t0, f0⟩ := V4 0 _ rfl
        obtain ⟨t1, f1⟩ := V4 1 _ rfl
        obtain ⟨t2, f2⟩ := V4 2 _ rfl
        obtain ⟨t3, f3⟩ := V4 3 _ rfl
        obtain ⟨t4, f4⟩ := V4 4 _ rfl
        obtain ⟨t5, f5⟩ := V4 5 _ rfl
        have Z9 := Z4
        have R9 := R4
        have O9 := O4
        have S9 := S4.mono (Nat.le_refl _) (show 39 + n ≤ 59 by omega)
        clear V4 Z4 O4 S4 R4 hn hn20 HF5
        obtain ⟨r0, g0⟩ := Z9 0 _ rfl
        obtain ⟨r1, g1⟩ := Z9 1 _ rfl
        obtain ⟨r2, g2⟩ := Z9 2 _ rfl
        obtain ⟨r3, g3⟩ := Z9 3 _ rfl
        obtain ⟨r4, g4⟩ := Z9 4 _ rfl
        obtain ⟨r5, g5⟩ := Z9 5 _ rfl
        have HP6 := Row.put6 (v0 := .int .i64 (hh).k) (v1 := .int .i64 (hh).m) (v2 := .int .i64 (hh).e) (v3 := .string (hh).t) (v4 := .slice aa (FF).len cc) (v5 := .slice (hh).na (hh).ns.length (hh).nc) Z9
        have HO6 := Otr.put6 b (j := W.heap.size) (o := 0) wr (.int .i64 (hh).k) (.int .i64 (hh).m) (.int .i64 (hh).e) (.string (hh).t) (.slice aa (FF).len cc) (.slice (hh).na (hh).ns.length (hh).nc)
        have hb9 := R9.base_leU
        have S10 := (S9.otr HO6 hbB (fun g hg => by cases hg; omega)).mono (B1 := W.heap.size) (M' := 60) (by omega) (by omega)
        have R10 := R9.uptoU (put6_below (B := W.heap.size) (nb := W.heap.size) (o := 0) (Below.refl _ wr) (Nat.le_refl _) (.int .i64 (hh).k) (.int .i64 (hh).m) (.int .i64 (hh).e) (.string (hh).t) (.slice aa (FF).len cc) (.slice (hh).na (hh).ns.length (hh).nc)) hlt (by omega)
        have O10 := O9.upto (put6_below (B := W.heap.size) (nb := W.heap.size) (o := 0) (Below.refl _ wr) (Nat.le_refl _) (.int .i64 (hh).k) (.int .i64 (hh).m) (.int .i64 (hh).e) (.string (hh).t) (.slice aa (FF).len cc) (.slice (hh).na (hh).ns.length (hh).nc))
        have HS10 : Hid (AnyS W.heap.size 60 (put6 wr W.heap.size 0 (.int .i64 (hh).k) (.int .i64 (hh).m) (.int .i64 (hh).e) (.string (hh).t) (.slice aa (FF).len cc) (.slice (hh).na (hh).ns.length (hh).nc)) (hh) aa cc FF ∧ Rd w0 B b a len cap _ (put6 wr W.heap.size 0 (.int .i64 (hh).k) (.int .i64 (hh).m) (.int .i64 (hh).e) (.string (hh).t) (.slice aa (FF).len cc) (.slice (hh).na (hh).ns.length (hh).nc)) ∧ Otb b W (put6 wr W.heap.size 0 (.int .i64 (hh).k) (.int .i64 (hh).m) (.int .i64 (hh).e) (.string (hh).t) (.slice aa (FF).len cc) (.slice (hh).na (hh).ns.length (hh).nc))) := ⟨S10, R10, O10⟩
        clear Z9 S9 R9 O9 HO6 S10 R10 O10
        go_wp2_with fail
        show bodyPost Try.prog Try.f20 _ Exit.ret _ (put6 wr W.heap.size 0 (.int .i64 (hh).k) (.int .i64 (hh).m) (.int .i64 (hh).e) (.string (hh).t) (.slice aa (FF).len cc) (.slice (hh).na (hh).ns.length (hh).nc))
        generalize put6 wr W.heap.size 0 (.int .i64 (hh).k) (.int .i64 (hh).m) (.int .i64 (hh).e) (.string (hh).t) (.slice aa (FF).len cc) (.slice (hh).na (hh).ns.length (hh).nc) = W6 at *
        have y0 := (HP6 0 _ rfl).1
        have y1 := (HP6 1 _ rfl).1
        have y2 := (HP6 2 _ rfl).1
        have y3 := (HP6 3 _ rfl).1
        have y4 := (HP6 4 _ rfl).1
        have y5 := (HP6 5 _ rfl).1
        obtain ⟨z1, z2, z3⟩ := HS10.out
        refine bodyPost_ret (v := valV (hh) aa (FF).len cc) (by simp [results, Try.results20, go_sem, y0, y1, y2, y3, y4, y5]) rfl (by first | exact ⟨hh, FF, aa, cc, _, rfl, z1, by omega, z2, z3⟩ | exact ⟨hh, FF, aa, cc, rfl, z1, _, by omega, z2, z3⟩)
  · have q0 : (v == 0) = false := by simp; omega
    have q1 : (v == 1) = false := by simp; omega
    have q2 : (v == 2) = false := by simp; omega
    have q3 : (v == 3) = false := by simp; omega
    have q4 : (v == 4) = false := by simp; omega
    obtain ⟨t0, f0⟩ := V4 0 _ rfl
    obtain ⟨t1, f1⟩ := V4 1 _ rfl
    obtain ⟨t2, f2⟩ := V4 2 _ rfl
    obtain ⟨t3, f3⟩ := V4 3 _ rfl
    obtain ⟨t4, f4⟩ := V4 4 _ rfl
    obtain ⟨t5, f5⟩ := V4 5 _ rfl
    have Z9 := Z4
    have R9 := R4
    have O9 := O4
    have S9 := S4.any (by omega)
    clear V4 Z4 O4 S4 R4 v0 v1 hv
    obtain ⟨r0, g0⟩ := Z9 0 _ rfl
    obtain ⟨r1, g1⟩ := Z9 1 _ rfl
    obtain ⟨r2, g2⟩ := Z9 2 _ rfl
    obtain ⟨r3, g3⟩ := Z9 3 _ rfl
    obtain ⟨r4, g4⟩ := Z9 4 _ rfl
    obtain ⟨r5, g5⟩ := Z9 5 _ rfl
    have HP6 := Row.put6 (v0 := .int .i64 (hV).k) (v1 := .int .i64 (hV).m) (v2 := .int .i64 (hV).e) (v3 := .string (hV).t) (v4 := .slice av (F).len c) (v5 := .slice (hV).na (hV).ns.length (hV).nc) Z9
    have HO6 := Otr.put6 b (j := W.heap.size) (o := 0) w4 (.int .i64 (hV).k) (.int .i64 (hV).m) (.int .i64 (hV).e) (.string (hV).t) (.slice av (F).len c) (.slice (hV).na (hV).ns.length (hV).nc)
    have hb9 := R9.base_leU
    have S10 := (S9.otr HO6 hbB (fun g hg => by cases hg; omega)).mono (B1 := W.heap.size) (M' := 60) (by omega) (by omega)
    have R10 := R9.uptoU (put6_below (B := W.heap.size) (nb := W.heap.size) (o := 0) (Below.refl _ w4) (Nat.le_refl _) (.int .i64 (hV).k) (.int .i64 (hV).m) (.int .i64 (hV).e) (.string (hV).t) (.slice av (F).len c) (.slice (hV).na (hV).ns.length (hV).nc)) hlt (by omega)
    have O10 := O9.upto (put6_below (B := W.heap.size) (nb := W.heap.size) (o := 0) (Below.refl _ w4) (Nat.le_refl _) (.int .i64 (hV).k) (.int .i64 (hV).m) (.int .i64 (hV).e) (.string (hV).t) (.slice av (F).len c) (.slice (hV).na (hV).ns.length (hV).nc))
    have HS10 : Hid (AnyS W.heap.size 60 (put6 w4 W.heap.size 0 (.int .i64 (hV).k) (.int .i64 (hV).m) (.int .i64 (hV).e) (.string (hV).t) (.slice av (F).len c) (.slice (hV).na (hV).ns.length (hV).nc)) (hV) av c F ∧ Rd w0 B b a len cap _ (put6 w4 W.heap.size 0 (.int .i64 (hV).k) (.int .i64 (hV).m) (.int .i64 (hV).e) (.string (hV).t) (.slice av (F).len c) (.slice (hV).na (hV).ns.length (hV).nc)) ∧ Otb b W (put6 w4 W.heap.size 0 (.int .i64 (hV).k) (.int .i64 (hV).m) (.int .i64 (hV).e) (.string (hV).t) (.slice av (F).len c) (.slice (hV).na (hV).ns.length (hV).nc))) := ⟨S10, R10, O10⟩
    clear Z9 S9 R9 O9 HO6 S10 R10 O10
    go_wp2_with fail
    show bodyPost Try.prog Try.f20 _ Exit.ret _ (put6 w4 W.heap.size 0 (.int .i64 (hV).k) (.int .i64 (hV).m) (.int .i64 (hV).e) (.string (hV).t) (.slice av (F).len c) (.slice (hV).na (hV).ns.length (hV).nc))
    generalize put6 w4 W.heap.size 0 (.int .i64 (hV).k) (.int .i64 (hV).m) (.int .i64 (hV).e) (.string (hV).t) (.slice av (F).len c) (.slice (hV).na (hV).ns.length (hV).nc) = W6 at *
    have y0 := (HP6 0 _ rfl).1
    have y1 := (HP6 1 _ rfl).1
    have y2 := (HP6 2 _ rfl).1
    have y3 := (HP6 3 _ rfl).1
    have y4 := (HP6 4 _ rfl).1
    have y5 := (HP6 5 _ rfl).1
    obtain ⟨z1, z2, z3⟩ := HS10.out
    refine bodyPost_ret (v := valV (hV) av (F).len c) (by simp [results, Try.results20, go_sem, y0, y1, y2, y3, y4, y5]) rfl (by first | exact ⟨hV, F, av, c, _, rfl, z1, by omega, z2, z3⟩ | exact ⟨hV, F, av, c, rfl, z1, _, by omega, z2, z3⟩)
end Go.Proofs.Ytfgchdnpbbgmjaa
/- Drawn values: DrawTomlPut. -/
namespace Go.Proofs.Ytfgchdnpbbgmjaa
open Go.RowKit
attribute [local go_sem] cell_alloc_is frozen_alloc_is
set_option maxHeartbeats 1000000 in
theorem drawTomlPut_any (W : World) (a : Option Addr) (len cap : Nat) (h : CodeIn W a len cap) :
    Calls Try.prog 6 #[.slice a len cap] W fun e w' => (∃ hV F av c, e = .returned (valV hV av F.len c) ∧ AnyS W.heap.size 468 w' hV av c F) ∧ Below W.heap.size W w' := by
  have Z0 : Row (W.alloc (.cells #[.int .i64 0, .int .i64 0, .int .i64 0, .string ⟨#[]⟩, .slice none 0 0, .slice none 0 0] 28)) W.heap.size zero6 := Row.new W zero6 28
  have hbW : Below W.heap.size W (W.alloc (.cells #[.int .i64 0, .int .i64 0, .int .i64 0, .string ⟨#[]⟩, .slice none 0 0, .slice none 0 0] 28)) := (Below.refl _ _).alloc (Nat.le_refl _) _
  have hC := h.below hbW
  have hz0 : W.heap.size < (W.alloc (.cells #[.int .i64 0, .int .i64 0, .int .i64 0, .string ⟨#[]⟩, .slice none 0 0, .slice none 0 0] 28)).heap.size := by simp
  clear h
  go_enter Try.func6, Try.ntmps6
  go_wp2_with fail
  generalize W.alloc (.cells #[.int .i64 0, .int .i64 0, .int .i64 0, .string ⟨#[]⟩, .slice none 0 0, .slice none 0 0] 28) = W1 at *
  refine (l1Open_any W1 a len cap hC).mono ?_
  rintro e w1 ⟨len', rfl, hR⟩
  have hb1 : Below W1.heap.size W1 w1 := hR.1
  have Z1 := Z0.below hb1 hz0
  go_wp2_with fail
  refine (pick_any 5 hR (by omega) (by omega) (by omega)).mono ?_
  rintro r wp ⟨⟨v, rfl, v0, v1⟩, s1⟩
  have hRp := hR.step s1
  have hzp : w1.heap.size ≤ wp.heap.size := by rw [s1.other.2.2]; exact Nat.le_refl _
  clear s1
  have hv : (v == 0) = true ∨ (v == 0) = false := by cases (v == 0) <;> simp
  rcases hv with hv | hv
  · go_wp2_with fail
    refine (l14AnyValue_any (0 + 1) wp hRp (by omega)).mono ?_
    rintro e w2 ⟨hV, F, av, c, p', rfl, hS0, _, hR2, hO2⟩
    have hS : AnyS wp.heap.size 468 w2 hV av c F := hS0.mono (Nat.le_refl _) (by omega)
    clear hS0
    have hb2 : Below W1.heap.size W1 w2 := hR2.1
    have hB : Below W.heap.size W w2 := hbW.trans (hb2.mono (Nat.le_of_lt hz0))
    have Z2 := Z0.below hb2 hz0
    obtain ⟨r0, g0⟩ := Z2 0 _ rfl
    obtain ⟨r1, g1⟩ := Z2 1 _ rfl
    obtain ⟨r2, g2⟩ := Z2 2 _ rfl
    obtain ⟨r3, g3⟩ := Z2 3 _ rfl
    obtain ⟨r4, g4⟩ := Z2 4 _ rfl
    obtain ⟨r5, g5⟩ := Z2 5 _ rfl
    have hzw : W1.heap.size ≤ w1.heap.size := hb1.size
    have HP6 := Row.put6 (v0 := .int .i64 hV.k) (v1 := .int .i64 hV.m) (v2 := .int .i64 hV.e) (v3 := .string hV.t) (v4 := .slice av F.len c) (v5 := .slice hV.na hV.ns.length hV.nc) Z2
    have HO6 := Otr.put6 W.heap.size (j := W.heap.size) (o := 0) w2 (.int .i64 hV.k) (.int .i64 hV.m) (.int .i64 hV.e) (.string hV.t) (.slice av F.len c) (.slice hV.na hV.ns.length hV.nc)
    have HS : Hid (AnyS W.heap.size 468 (put6 w2 W.heap.size 0 (.int .i64 hV.k) (.int .i64 hV.m) (.int .i64 hV.e) (.string hV.t) (.slice av F.len c) (.slice hV.na hV.ns.length hV.nc)) hV av c F ∧ Below W.heap.size W (put6 w2 W.heap.size 0 (.int .i64 hV.k) (.int .i64 hV.m) (.int .i64 hV.e) (.string hV.t) (.slice av F.len c) (.slice hV.na hV.ns.length hV.nc))) :=
      ⟨(hS.otr HO6 (by omega) (fun g hg => by cases hg; omega)).mono (by omega) (Nat.le_refl _), put6_below hB (Nat.le_refl _) _ _ _ _ _ _⟩
    clear Z0 Z1 Z2 hS hR2 hO2 hb2 hB HO6 hR hb1 hC hbW
    go_wp2_with fail
    show bodyPost Try.prog Try.f6 _ Exit.ret _ (put6 w2 W.heap.size 0 (.int .i64 hV.k) (.int .i64 hV.m) (.int .i64 hV.e) (.string hV.t) (.slice av F.len c) (.slice hV.na hV.ns.length hV.nc))
    generalize put6 w2 W.heap.size 0 (.int .i64 hV.k) (.int .i64 hV.m) (.int .i64 hV.e) (.string hV.t) (.slice av F.len c) (.slice hV.na hV.ns.length hV.nc) = W6 at *
    have y0 := (HP6 0 _ rfl).1
    have y1 := (HP6 1 _ rfl).1
    have y2 := (HP6 2 _ rfl).1
    have y3 := (HP6 3 _ rfl).1
    have y4 := (HP6 4 _ rfl).1
    have y5 := (HP6 5 _ rfl).1
    refine bodyPost_ret (v := valV hV av F.len c) (by simp [results, Try.results6, go_sem, y0, y1, y2, y3, y4, y5]) rfl ⟨⟨hV, F, av, c, rfl, HS.out.1⟩, HS.out.2⟩
  · go_wp2_with fail
    refine (l14Fits_any 2 (by omega) (0 + 1) wp hRp (by decide)).mono ?_
    rintro e w2 ⟨hV, F, av, c, p', rfl, hS0, _, hR2, hO2⟩
    have hS : AnyS wp.heap.size 468 w2 hV av c F := (hS0.any (Nat.le_refl _)).mono (Nat.le_refl _) (by decide)
    clear hS0
    have hb2 : Below W1.heap.size W1 w2 := hR2.1
    have hB : Below W.heap.size W w2 := hbW.trans (hb2.mono (Nat.le_of_lt hz0))
    have Z2 := Z0.below hb2 hz0
    obtain ⟨r0, g0⟩ := Z2 0 _ rfl
    obtain ⟨r1, g1⟩ := Z2 1 _ rfl
    obtain ⟨r2, g2⟩ := Z2 2 _ rfl
    obtain ⟨r3, g3⟩ := Z2 3 _ rfl
    obtain ⟨r4, g4⟩ := Z2 4 _ rfl
    obtain ⟨r5, g5⟩ := Z2 5 _ rfl
    have hzw : W1.heap.size ≤ w1.heap.size := hb1.size
    have HP6 := Row.put6 (v0 := .int .i64 hV.k) (v1 := .int .i64 hV.m) (v2 := .int .i64 hV.e) (v3 := .string hV.t) (v4 := .slice av F.len c) (v5 := .slice hV.na hV.ns.length hV.nc) Z2
    have HO6 := Otr.put6 W.heap.size (j := W.heap.size) (o := 0) w2 (.int .i64 hV.k) (.int .i64 hV.m) (.int .i64 hV.e) (.string hV.t) (.slice av F.len c) (.slice hV.na hV.ns.length hV.nc)
    have HS : Hid (AnyS W.heap.size 468 (put6 w2 W.heap.size 0 (.int .i64 hV.k) (.int .i64 hV.m) (.int .i64 hV.e) (.string hV.t) (.slice av F.len c) (.slice hV.na hV.ns.length hV.nc)) hV av c F ∧ Below W.heap.size W (put6 w2 W.heap.size 0 (.int .i64 hV.k) (.int .i64 hV.m) (.int .i64 hV.e) (.string hV.t) (.slice av F.len c) (.slice hV.na hV.ns.length hV.nc))) :=
      ⟨(hS.otr HO6 (by omega) (fun g hg => by cases hg; omega)).mono (by omega) (Nat.le_refl _), put6_below hB (Nat.le_refl _) _ _ _ _ _ _⟩
    clear Z0 Z1 Z2 hS hR2 hO2 hb2 hB HO6 hR hb1 hC hbW
    go_wp2_with fail
    show bodyPost Try.prog Try.f6 _ Exit.ret _ (put6 w2 W.heap.size 0 (.int .i64 hV.k) (.int .i64 hV.m) (.int .i64 hV.e) (.string hV.t) (.slice av F.len c) (.slice hV.na hV.ns.length hV.nc))
    generalize put6 w2 W.heap.size 0 (.int .i64 hV.k) (.int .i64 hV.m) (.int .i64 hV.e) (.string hV.t) (.slice av F.len c) (.slice hV.na hV.ns.length hV.nc) = W6 at *
    have y0 := (HP6 0 _ rfl).1
    have y1 := (HP6 1 _ rfl).1
    have y2 := (HP6 2 _ rfl).1
    have y3 := (HP6 3 _ rfl).1
    have y4 := (HP6 4 _ rfl).1
    have y5 := (HP6 5 _ rfl).1
    refine bodyPost_ret (v := valV hV av F.len c) (by simp [results, Try.results6, go_sem, y0, y1, y2, y3, y4, y5]) rfl ⟨⟨hV, F, av, c, rfl, HS.out.1⟩, HS.out.2⟩
end Go.Proofs.Ytfgchdnpbbgmjaa
/- Contracts of the leaves of chapter 2: letters, figures, runs, words, NameOk of both sides. -/
namespace Go.Proofs.Ytfgchdnpbbgmjaa
open Go.RowKit

theorem lret_bool {a b : Bool} (h : a = b) : Ending.returned (.bool a) = .returned (.bool b) := by rw [h]
theorem lret_int {k : IntKind} {a b : Int} (h : a = b) : Ending.returned (.int k a) = .returned (.int k b) := by rw [h]

set_option maxHeartbeats 400000 in
theorem isLetter_any (c : Int) (w : World) :
    Calls Try.prog 161 #[.int .u8 c] w fun e w' => e = .returned (.bool (Qm.low c)) ∧ w' = w := by
  go_enter Try.func161, Try.ntmps161
  go_wp2
  all_goals
    go_ret
    exact ⟨lret_bool (by rw [Bool.eq_iff_iff]; simp [Qm.low]; try omega), rfl⟩
set_option maxHeartbeats 400000 in
theorem l2Low_any (c : Int) (w : World) :
    Calls Try.prog 138 #[.int .u8 c] w fun e w' => e = .returned (.bool (Qm.low c)) ∧ w' = w := by
  go_enter Try.func138, Try.ntmps138
  go_wp2
  all_goals
    go_ret
    exact ⟨lret_bool (by rw [Bool.eq_iff_iff]; simp [Qm.low]; try omega), rfl⟩
set_option maxHeartbeats 400000 in
theorem isFigure_any (c : Int) (w : World) :
    Calls Try.prog 165 #[.int .u8 c] w fun e w' => e = .returned (.bool (Qm.fig c)) ∧ w' = w := by
  go_enter Try.func165, Try.ntmps165
  go_wp2
  all_goals
    go_ret
    exact ⟨lret_bool (by rw [Bool.eq_iff_iff]; simp [Qm.fig]; try omega), rfl⟩
set_option maxHeartbeats 400000 in
theorem l2Figure_any (c : Int) (w : World) :
    Calls Try.prog 139 #[.int .u8 c] w fun e w' => e = .returned (.bool (Qm.fig c)) ∧ w' = w := by
  go_enter Try.func139, Try.ntmps139
  go_wp2
  all_goals
    go_ret
    exact ⟨lret_bool (by rw [Bool.eq_iff_iff]; simp [Qm.fig]; try omega), rfl⟩
set_option maxHeartbeats 400000 in
theorem isNamePart_any (c : Int) (w : World) :
    Calls Try.prog 163 #[.int .u8 c] w fun e w' => e = .returned (.bool (Qm.part c)) ∧ w' = w := by
  go_enter Try.func163, Try.ntmps163
  go_wp2_with (first | (go_at_call 161; refine (isLetter_any _ _).mono ?_; rintro e w' ⟨rfl, rfl⟩) | (go_at_call 165; refine (isFigure_any _ _).mono ?_; rintro e w' ⟨rfl, rfl⟩))
  all_goals
    go_ret
    exact ⟨lret_bool (by simp_all [Qm.part]), rfl⟩
set_option maxHeartbeats 400000 in
theorem l1In_l (n a b : Int) (w : World) :
    Calls Try.prog 118 #[.int .i64 n, .int .i64 a, .int .i64 b] w fun e w' => e = .returned (.bool (decide (a ≤ n) && decide (n ≤ b))) ∧ w' = w := by
  go_enter Try.func118, Try.ntmps118
  go_wp2
  all_goals
    go_ret
    exact ⟨lret_bool (by simp; try omega), rfl⟩

/-- how many bytes a text begins with that are name's parts -/
theorem runLength_part (s : ByteArray) (w : World) (hs : s.size ≤ maxLen) :
    Calls Try.prog 162 #[.string s, .func (.func 163) #[] #[]] w fun e w' => e = .returned (.int .i64 (Qm.run Qm.part s.data.toList)) ∧ w' = w := by
  unfold maxLen at hs
  go_enter Try.func162, Try.ntmps162
  go_wp2_with fail
  go_loop [5] (fun i => ∃ k : Nat, k ≤ s.size ∧ i = .int .i64 k ∧ Qm.run Qm.part s.data.toList = k + Qm.run Qm.part (s.data.toList.drop k)) (fun i => s.size - (intOf i).toNat)
  case atStart => exact ⟨0, Nat.zero_le _, rfl, by simp⟩
  case round =>
    obtain ⟨k, hk, rfl, hr⟩ := hrel
    have HR : Hid (Qm.run Qm.part s.data.toList = k + Qm.run Qm.part (s.data.toList.drop k)) := hr
    clear hr
    by_cases hlt : k < s.size
    · have HS : Hid (Qm.run Qm.part (s.data.toList.drop k) = if Qm.part s[k].toNat then 1 + Qm.run Qm.part (s.data.toList.drop (k + 1)) else 0) := Qm.run_step _ s k hlt
      cases hp : Qm.part s[k].toNat
      · go_wp2_with (go_at_call 163; refine (isNamePart_any _ _).mono ?_; rintro e w' ⟨rfl, rfl⟩)
        go_ret
        exact ⟨lret_int (by rw [HR.out, HS.out, hp]; simp), rfl⟩
      · go_wp2_with (go_at_call 163; refine (isNamePart_any _ _).mono ?_; rintro e w' ⟨rfl, rfl⟩)
        go_round
        case rel => exact ⟨k + 1, by omega, by go_num, by rw [HR.out, HS.out, hp]; simp; omega⟩
        case measure => simp [intOf]; omega
    · have HE := Qm.run_end Qm.part s k hlt
      have HE' : Hid (Qm.run Qm.part (s.data.toList.drop k) = 0) := HE
      clear HE
      go_wp2_with fail
      go_ret
      exact ⟨lret_int (by rw [HR.out, HE'.out]; simp), rfl⟩
end Go.Proofs.Ytfgchdnpbbgmjaa
/- Contracts: words, l2Has, l2Letters, NameOk of both sides. -/
namespace Go.Proofs.Ytfgchdnpbbgmjaa
open Go.RowKit

set_option maxHeartbeats 1000000 in
theorem isWord_any (s : ByteArray) (w : World) :
    Calls Try.prog 164 #[.string s] w fun e w' => e = .returned (.bool (Qm.has Qm.words s.toList)) ∧ w' = w := by
  generalize hl : s.toList = l
  cases h : Qm.has Qm.words l
  · simp only [Qm.words, Qm.has, Bool.or_eq_false_iff] at h
    obtain ⟨a1, a2, a3, a4, a5, a6, a7, a8, a9, a10, a11, a12, a13, a14, a15, _⟩ := h
    go_enter Try.func164, Try.ntmps164
    go_wp2_with fail
    go_ret
    exact ⟨rfl, rfl⟩
  · have hm : l ∈ Qm.words := by
      simp only [Qm.words, Qm.has, Bool.or_eq_true, beq_iff_eq] at h
      simp only [Qm.words, List.mem_cons, List.not_mem_nil, or_false]
      rcases h with h | h | h | h | h | h | h | h | h | h | h | h | h | h | h | h
      all_goals first | exact absurd h (by simp) | (subst h; simp)
    clear h
    simp only [Qm.words, List.mem_cons, List.not_mem_nil, or_false] at hm
    rcases hm with h | h | h | h | h | h | h | h | h | h | h | h | h | h | h
    all_goals
      subst h
      go_enter Try.func164, Try.ntmps164
      go_wp2_with fail
      go_ret
      exact ⟨rfl, rfl⟩
end Go.Proofs.Ytfgchdnpbbgmjaa
/- Contracts: l2Words, l2Has. -/
namespace Go.Proofs.Ytfgchdnpbbgmjaa
open Go.RowKit

/-- the words' texts, as they lie in memory -/
def wordTexts : Array Value := #[.string ⟨#[110, 117, 108, 108]⟩, .string ⟨#[116, 114, 117, 101]⟩, .string ⟨#[102, 97, 108, 115, 101]⟩, .string ⟨#[105, 102]⟩, .string ⟨#[116, 104, 101, 110]⟩, .string ⟨#[101, 108, 115, 101]⟩, .string ⟨#[108, 111, 99, 97, 108]⟩, .string ⟨#[102, 117, 110, 99, 116, 105, 111, 110]⟩, .string ⟨#[115, 101, 108, 102]⟩, .string ⟨#[115, 117, 112, 101, 114]⟩, .string ⟨#[101, 114, 114, 111, 114]⟩, .string ⟨#[105, 109, 112, 111, 114, 116]⟩, .string ⟨#[102, 111, 114]⟩, .string ⟨#[105, 110]⟩, .string ⟨#[115, 116, 100]⟩]
set_option maxHeartbeats 400000 in
theorem l2Words_any (w : World) :
    Calls Try.prog 132 #[] w fun e w' => e = .returned (.slice (some ⟨w.heap.size, 0, none⟩) 15 15) ∧ w' = w.alloc (.cells wordTexts 9) := by
  go_enter Try.func132, Try.ntmps132
  go_wp2_with fail
  go_ret
  exact ⟨rfl, rfl⟩

set_option maxHeartbeats 400000 in
theorem l2Has_any (b n : Nat) (S : List ByteArray) (s : ByteArray) (w : World) (hn : S.length = n) (hb : n ≤ 1000)
    (hc : ∀ k (h : k < S.length), w.cell? ⟨b, k, none⟩ = some (.string S[k])) :
    Calls Try.prog 78 #[.slice (some ⟨b, 0, none⟩) n n, .string s] w fun e w' => e = .returned (.bool (Qm.has (S.map ByteArray.toList) s.toList)) ∧ w' = w := by
  subst hn
  go_enter Try.func78, Try.ntmps78
  go_wp2_with fail
  go_loop [5] (fun i => ∃ k : Nat, k ≤ S.length ∧ i = .int .i64 k ∧ Qm.has (S.map ByteArray.toList) s.toList = Qm.has ((S.map ByteArray.toList).drop k) s.toList) (fun i => S.length - (intOf i).toNat)
  case atStart => exact ⟨0, Nat.zero_le _, rfl, by simp⟩
  case round =>
    obtain ⟨k, hk, rfl, hr⟩ := hrel
    have HR : Hid (Qm.has (S.map ByteArray.toList) s.toList = Qm.has ((S.map ByteArray.toList).drop k) s.toList) := hr
    clear hr
    by_cases hlt : k < S.length
    · have HS : Hid (Qm.has ((S.map ByteArray.toList).drop k) s.toList = ((s.toList == (S.map ByteArray.toList)[k]'(by simpa using hlt)) || Qm.has ((S.map ByteArray.toList).drop (k + 1)) s.toList)) := Qm.has_drop _ _ k (by simpa using hlt)
      have hck := hc k hlt
      clear hc
      cases hq : (S[k].toList == s.toList)
      · go_wp2_with fail
        go_round
        case rel => exact ⟨k + 1, by omega, by go_num, by rw [HR.out, HS.out, List.getElem_map, BEq.comm, hq]; simp⟩
        case measure => simp [intOf]; omega
      · go_wp2_with fail
        go_ret
        exact ⟨lret_bool (by rw [HR.out, HS.out, List.getElem_map, BEq.comm, hq]; simp), rfl⟩
    · have HE : Hid (Qm.has ((S.map ByteArray.toList).drop k) s.toList = false) := Qm.has_end _ _ k (by simpa using hlt)
      go_wp2_with fail
      go_ret
      exact ⟨lret_bool (by rw [HR.out, HE.out]), rfl⟩

set_option maxHeartbeats 400000 in
theorem l2Letters_any (s : ByteArray) (w : World) (hs : s.size ≤ maxLen) :
    Calls Try.prog 131 #[.string s] w fun e w' => e = .returned (.bool (Qm.letters 0 s.data.toList && (decide (1 ≤ s.size) && decide (s.size ≤ 12)))) ∧ w' = w := by
  unfold maxLen at hs
  go_enter Try.func131, Try.ntmps131
  go_wp2_with fail
  go_loop [3] (fun i => ∃ k : Nat, k ≤ s.size ∧ i = .int .i64 k ∧ Qm.letters 0 s.data.toList = Qm.letters k (s.data.toList.drop k)) (fun i => s.size - (intOf i).toNat)
  case atStart => exact ⟨0, Nat.zero_le _, rfl, by simp⟩
  case round =>
    obtain ⟨k, hk, rfl, hr⟩ := hrel
    have HR : Hid (Qm.letters 0 s.data.toList = Qm.letters k (s.data.toList.drop k)) := hr
    clear hr
    by_cases hlt : k < s.size
    · have HS : Hid (Qm.letters k (s.data.toList.drop k) = (Qm.okAt k s[k].toNat && Qm.letters (k + 1) (s.data.toList.drop (k + 1)))) := Qm.letters_step s k hlt
      cases h1 : Qm.low s[k].toNat
      · by_cases h0 : k = 0
        · subst h0
          go_wp2_with (first | (go_at_call 138; refine (l2Low_any _ _).mono ?_; rintro e w' ⟨rfl, rfl⟩) | (go_at_call 139; refine (l2Figure_any _ _).mono ?_; rintro e w' ⟨rfl, rfl⟩))
          go_ret
          exact ⟨lret_bool (by rw [HR.out, HS.out]; simp [Qm.okAt, h1]), rfl⟩
        · cases h2 : Qm.fig s[k].toNat
          · go_wp2_with (first | (go_at_call 138; refine (l2Low_any _ _).mono ?_; rintro e w' ⟨rfl, rfl⟩) | (go_at_call 139; refine (l2Figure_any _ _).mono ?_; rintro e w' ⟨rfl, rfl⟩))
            go_ret
            exact ⟨lret_bool (by rw [HR.out, HS.out]; simp [Qm.okAt, h1, h2]), rfl⟩
          · go_wp2_with (first | (go_at_call 138; refine (l2Low_any _ _).mono ?_; rintro e w' ⟨rfl, rfl⟩) | (go_at_call 139; refine (l2Figure_any _ _).mono ?_; rintro e w' ⟨rfl, rfl⟩))
            go_round
            case rel => exact ⟨k + 1, by omega, by go_num, by rw [HR.out, HS.out]; simp [Qm.okAt, h1, h2, h0]⟩
            case measure => simp [intOf]; omega
      · go_wp2_with (first | (go_at_call 138; refine (l2Low_any _ _).mono ?_; rintro e w' ⟨rfl, rfl⟩) | (go_at_call 139; refine (l2Figure_any _ _).mono ?_; rintro e w' ⟨rfl, rfl⟩))
        go_round
        case rel => exact ⟨k + 1, by omega, by go_num, by rw [HR.out, HS.out]; simp [Qm.okAt, h1]⟩
        case measure => simp [intOf]; omega
    · have HE : Hid (Qm.letters k (s.data.toList.drop k) = true) := by unfold Hid; rw [Qm.drop_end s k hlt]; rfl
      go_wp2_with (go_at_call 118; refine (l1In_l _ _ _ _).mono ?_; rintro e w' ⟨rfl, rfl⟩)
      go_ret
      exact ⟨lret_bool (by rw [HR.out, HE.out, Bool.eq_iff_iff]; simp; omega), rfl⟩

/-- the words, as byte arrays -/
def wordArrs : List ByteArray := [⟨#[110, 117, 108, 108]⟩, ⟨#[116, 114, 117, 101]⟩, ⟨#[102, 97, 108, 115, 101]⟩, ⟨#[105, 102]⟩, ⟨#[116, 104, 101, 110]⟩, ⟨#[101, 108, 115, 101]⟩, ⟨#[108, 111, 99, 97, 108]⟩, ⟨#[102, 117, 110, 99, 116, 105, 111, 110]⟩, ⟨#[115, 101, 108, 102]⟩, ⟨#[115, 117, 112, 101, 114]⟩, ⟨#[101, 114, 114, 111, 114]⟩, ⟨#[105, 109, 112, 111, 114, 116]⟩, ⟨#[102, 111, 114]⟩, ⟨#[105, 110]⟩, ⟨#[115, 116, 100]⟩]
theorem wordArrs_lists : wordArrs.map ByteArray.toList = Qm.words := by decide +kernel
theorem wordArrs_cells (w : World) : ∀ k (h : k < wordArrs.length), (w.alloc (.cells wordTexts 9)).cell? ⟨w.heap.size, k, none⟩ = some (.string wordArrs[k]) := by
  intro k h
  have h' : k < 15 := h
  simp only [wordTexts]
  have : k = 0 ∨ k = 1 ∨ k = 2 ∨ k = 3 ∨ k = 4 ∨ k = 5 ∨ k = 6 ∨ k = 7 ∨ k = 8 ∨ k = 9 ∨ k = 10 ∨ k = 11 ∨ k = 12 ∨ k = 13 ∨ k = 14 := by omega
  rcases this with rfl | rfl | rfl | rfl | rfl | rfl | rfl | rfl | rfl | rfl | rfl | rfl | rfl | rfl | rfl
  all_goals simp [wordArrs]

set_option maxHeartbeats 400000 in
theorem sNameOk_any (s : ByteArray) (w : World) (hs : s.size ≤ maxLen) :
    Calls Try.prog 119 #[.string s] w fun e w' => e = .returned (.bool (Qm.name s)) ∧ Below w.heap.size w w' := by
  cases h : (Qm.letters 0 s.data.toList && (decide (1 ≤ s.size) && decide (s.size ≤ 12)))
  · go_enter Try.func119, Try.ntmps119
    go_wp2_with (go_at_call 131; refine (l2Letters_any _ _ hs).mono ?_; rintro e w' ⟨rfl, rfl⟩)
    go_ret
    exact ⟨lret_bool (by unfold Qm.name; rw [h]; rfl), Below.refl _ _⟩
  · have HH := l2Has_any w.heap.size 15 wordArrs s (w.alloc (.cells wordTexts 9)) rfl (by omega) (wordArrs_cells w)
    rw [wordArrs_lists] at HH
    cases hw : Qm.has Qm.words s.toList
    all_goals
      rw [hw] at HH
      go_enter Try.func119, Try.ntmps119
      go_wp2_with (first | (go_at_call 131; refine (l2Letters_any _ _ hs).mono ?_; rintro e w' ⟨rfl, rfl⟩) | (go_at_call 132; refine (l2Words_any _).mono ?_; rintro e w' ⟨rfl, rfl⟩) | (go_at_call 78; refine HH.mono ?_; rintro e w' ⟨rfl, rfl⟩))
      go_ret
      exact ⟨lret_bool (by unfold Qm.name; rw [h, hw]; rfl), (Below.refl _ _).alloc (Nat.le_refl _) _⟩

set_option maxHeartbeats 400000 in
theorem iNameOk_any (s : ByteArray) (w : World) (hs : s.size ≤ maxLen) :
    Calls Try.prog 160 #[.string s] w fun e w' => e = .returned (.bool (Qm.name s)) ∧ w' = w := by
  by_cases h0 : 0 < s.size
  · have hne : (s.toList == []) = false := by rw [beq_eq_false_iff_ne]; intro h; rw [ByteArray.toList_eq] at h; have := Qm.len_eq s; rw [h] at this; simp at this; omega
    by_cases h12 : s.size ≤ 12
    · have HN := Qm.name_eq s h0
      have HN' : Hid (Qm.name s = (decide (s.size ≤ 12) && (Qm.low s[0].toNat && (decide (Qm.run Qm.part s.data.toList = s.size) && !Qm.has Qm.words s.toList)))) := HN
      clear HN
      have hR := Qm.run_le Qm.part s.data.toList
      simp at hR
      cases hl : Qm.low s[0].toNat
      · go_enter Try.func160, Try.ntmps160
        go_wp2_with (go_at_call 161; refine (isLetter_any _ _).mono ?_; rintro e w' ⟨rfl, rfl⟩)
        go_ret
        exact ⟨lret_bool (by rw [HN'.out, hl]; simp), rfl⟩
      · by_cases hr : Qm.run Qm.part s.data.toList = s.size
        · cases hw : Qm.has Qm.words s.toList
          all_goals
            go_enter Try.func160, Try.ntmps160
            go_wp2_with (first | (go_at_call 161; refine (isLetter_any _ _).mono ?_; rintro e w' ⟨rfl, rfl⟩) | (go_at_call 162; refine (runLength_part _ _ hs).mono ?_; rintro e w' ⟨rfl, rfl⟩) | (go_at_call 164; refine (isWord_any _ _).mono ?_; rintro e w' ⟨rfl, rfl⟩))
            go_ret
            exact ⟨lret_bool (by rw [HN'.out, hl, hr, hw]; simp [h12]), rfl⟩
        · have hr' : ((Qm.run Qm.part s.data.toList : Int) == s.size) = false := by simp; omega
          go_enter Try.func160, Try.ntmps160
          go_wp2_with (first | (go_at_call 161; refine (isLetter_any _ _).mono ?_; rintro e w' ⟨rfl, rfl⟩) | (go_at_call 162; refine (runLength_part _ _ hs).mono ?_; rintro e w' ⟨rfl, rfl⟩) | (go_at_call 164; refine (isWord_any _ _).mono ?_; rintro e w' ⟨rfl, rfl⟩))
          go_ret
          exact ⟨lret_bool (by rw [HN'.out, hl]; simp [hr]), rfl⟩
    · have HN : Hid (Qm.name s = false) := Qm.name_long s h12
      go_enter Try.func160, Try.ntmps160
      go_wp2_with fail
      go_ret
      exact ⟨lret_bool (by rw [HN.out]), rfl⟩
  · have HN : Hid (Qm.name s = false) := Qm.name_none s h0
    have hne : (s.toList == []) = true := by rw [beq_iff_eq]; apply List.eq_nil_of_length_eq_zero; rw [ByteArray.toList_eq, Qm.len_eq]; omega
    go_enter Try.func160, Try.ntmps160
    go_wp2_with fail
    go_ret
    exact ⟨lret_bool (by rw [HN.out]), rfl⟩
end Go.Proofs.Ytfgchdnpbbgmjaa
