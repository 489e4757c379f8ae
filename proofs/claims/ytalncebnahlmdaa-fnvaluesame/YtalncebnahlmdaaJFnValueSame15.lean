/- My own texts, joined: Ul Um Up Kb Nf. -/
import Derived.Test.YtalncebnahlmdaaJFnValueSame14
import Derived.Test.YtalncebnahlmdaaJFnValueSame8
import Derived.Deep.RegionHeld3
/- Drawn values: l14AnyValue, and the draws of one value. -/
namespace Go.Proofs.Ytalncebnahlmdaa
open Go.RowKit
attribute [local go_sem] cell_alloc_is frozen_alloc_is
theorem small_d {n : Nat} (h : n < 3) : pkD (n + 1) ≤ 1356 ∧ szD (n + 1) ≤ 39 := by
  have : n = 0 ∨ n = 1 ∨ n = 2 := by omega
  rcases this with rfl | rfl | rfl <;> decide
theorem blk_ne {F : Vo} {vb : Nat} (h : F.Blk (fun x => ¬ x = vb)) : F.Blk (fun x => some x ≠ some vb) := h.mono fun _ hx e => hx (Option.some.inj e)
theorem AnyS.put {B0 M b vb o : Nat} {w : World} {h : Hd} {a : Option Addr} {c : Nat} {F : Vo} (x : AnyS B0 M w h a c F) (hb : b < B0) (hf : (oneV h a c F).Blk (fun x => ¬ x = vb)) (u : Value) : AnyS B0 M (w.setCell ⟨vb, o, none⟩ u) h a c F :=
  x.otr2 (Otr.setCell b w u) hb (blk_ne hf)

set_option maxRecDepth 100000 in
set_option maxHeartbeats 2000000 in
theorem l14AnyValue_any {w0 : World} {B b : Nat} {a : Option Addr} {len cap : Nat} (p : Int) (W : World) (hR : Rd w0 B b a len cap p W) (hp : p ≤ 70000) :
    Calls Try.prog 22 #[.pointer (some ⟨b, 0, none⟩)] W fun e w' => ∃ hV F av c p', e = .returned (valV hV av F.len c) ∧ AnyS W.heap.size 60 w' hV av c F ∧ p' ≤ p + 2000 ∧ Rd w0 B b a len cap p' w' ∧ Otb b W w' := by
  have hlt := hR.lt
  have hne : ¬ W.heap.size = b := by omega
  have Z0 : Row (W.alloc (.cells #[.int .i64 0, .int .i64 0, .int .i64 0, .string ⟨#[]⟩, .slice none 0 0, .slice none 0 0] 28)) W.heap.size zero6 := Row.new W zero6 28
  have R0 := hR.below ((Below.refl _ W).alloc (Nat.le_refl _) (.cells #[.int .i64 0, .int .i64 0, .int .i64 0, .string ⟨#[]⟩, .slice none 0 0, .slice none 0 0] 28))
  have O0 := (Otb.refl b W).alloc (.cells #[.int .i64 0, .int .i64 0, .int .i64 0, .string ⟨#[]⟩, .slice none 0 0, .slice none 0 0] 28)
  have hz0 : W.heap.size < (W.alloc (.cells #[.int .i64 0, .int .i64 0, .int .i64 0, .string ⟨#[]⟩, .slice none 0 0, .slice none 0 0] 28)).heap.size := by simp
  clear hR
  go_enter Try.func22, Try.ntmps22
  go_wp2_with fail
  generalize W.alloc (.cells #[.int .i64 0, .int .i64 0, .int .i64 0, .string ⟨#[]⟩, .slice none 0 0, .slice none 0 0] 28) = W1 at *
  refine (pick_any 3 R0 (by omega) (by omega) (by omega)).mono ?_
  rintro r w1 ⟨⟨v0, rfl, v00, v01⟩, s1⟩
  have R1 := R0.step s1
  have Z1 : Row w1 W.heap.size zero6 := Row.otb ((Otb.refl b W1).stepped s1) hne Z0
  have O1 := O0.stepped s1
  have hz1 : W.heap.size < w1.heap.size := by rw [s1.other.2.2]; exact hz0
  clear Z0 R0 O0 hz0 s1
  obtain ⟨n, rfl⟩ := Int.eq_ofNat_of_zero_le v00
  obtain ⟨pk, sz⟩ := small_d (n := n) (by omega)
  have e1 : (1 : Int) + (n : Int) = ((n + 1 : Nat) : Int) := by omega
  have hl14 := l14Value_any (w0 := w0) (B := B) (b := b) (a := a) (len := len) (cap := cap) (n + 1) (by omega) (p + 1) w1 R1 (by omega)
  rw [← e1] at hl14
  have HL : Hid (Calls Try.prog 43 #[.pointer (some ⟨b, 0, none⟩), .int .i64 (1 + (n : Int))] w1 _) := hl14
  clear hl14 e1
  go_wp2_with fail
  refine HL.out.mono ?_
  rintro r w2 ⟨hV, F, av, c, p2, rfl, hval, hp2, R2, O12⟩
  have Z2 : Row w2 W.heap.size zero6 := Row.otb O12 hne Z1
  have O2 := O1.trans O12
  have hz2 : W.heap.size < w2.heap.size := Nat.lt_of_lt_of_le hz1 O12.1
  have hb1 : b < w1.heap.size := R1.lt
  have hnvb : ∀ x, blkOf hV.na = some x → W.heap.size < x ∧ x < w2.heap.size := fun x hx => by
    have h5 := hval.2.2.1.lt x (by rw [ownBlock_blkOf]; exact hx)
    omega
  have hfar : (oneV hV av c F).Blk (fun x => x < w2.heap.size) := hval.blk.mono fun x hx => hx.2
  have hval1 := hval.mono (B1 := W.heap.size + 1) (L' := 3) (M' := 39) (by omega) (Nat.le_refl _) sz
  have hp3 : p2 ≤ p + 1 + 1356 := by omega
  clear HL Z1 R1 O1 O12 hz1 hval hp2 pk sz
  have hbW : Below w2.heap.size w2 (w2.alloc (.cells #[.int .i64 hV.k, .int .i64 hV.m, .int .i64 hV.e, .string hV.t, .slice av F.len c, .slice hV.na hV.ns.length hV.nc] 28)) := (Below.refl _ _).alloc (Nat.le_refl _) _
  have V3 : Row (w2.alloc (.cells #[.int .i64 hV.k, .int .i64 hV.m, .int .i64 hV.e, .string hV.t, .slice av F.len c, .slice hV.na hV.ns.length hV.nc] 28)) w2.heap.size (six hV av F.len c) := Row.new w2 _ _
  have Z3 := Z2.below hbW hz2
  have R3 := R2.below hbW
  have O3 := O2.alloc (.cells #[.int .i64 hV.k, .int .i64 hV.m, .int .i64 hV.e, .string hV.t, .slice av F.len c, .slice hV.na hV.ns.length hV.nc] 28)
  have S3 := hval1.below hbW
  have hsz : w2.heap.size < (w2.alloc (.cells #[.int .i64 hV.k, .int .i64 hV.m, .int .i64 hV.e, .string hV.t, .slice av F.len c, .slice hV.na hV.ns.length hV.nc] 28)).heap.size := by simp
  have HNv : Hid (∀ x, blkOf hV.na = some x → W.heap.size < x ∧ x < w2.heap.size) := hnvb
  have HFar : Hid ((oneV hV av c F).Blk (fun x => x < w2.heap.size)) := hfar
  have HZ2 : Hid (W.heap.size < w2.heap.size) := hz2
  clear hnvb hfar hval1 Z2 R2 O2 hbW hz2
  go_wp2_with fail
  obtain ⟨vb, hvb⟩ : ∃ vb, w2.heap.size = vb := ⟨_, rfl⟩
  rw [hvb] at V3 hsz HFar HNv HZ2 ⊢
  generalize w2.alloc (.cells #[.int .i64 hV.k, .int .i64 hV.m, .int .i64 hV.e, .string hV.t, .slice av F.len c, .slice hV.na hV.ns.length hV.nc] 28) = W3 at *
  clear hvb
  refine (pick_any 20 R3 (by omega) (by omega) (by omega)).mono ?_
  rintro r w4 ⟨⟨v, rfl, v0, v1⟩, s4⟩
  have hvb2 : ¬ vb = b := by have := HZ2.out; omega
  have R4 := R3.step s4
  have V4 : Row w4 vb (six hV av F.len c) := Row.otb ((Otb.refl b W3).stepped s4) hvb2 V3
  have Z4 : Row w4 W.heap.size zero6 := Row.otb ((Otb.refl b W3).stepped s4) hne Z3
  have O4 := O3.stepped s4
  have S4 : ValS (W.heap.size + 1) 3 39 w4 hV av c F := S3.otr (((Otb.refl b W3).stepped s4).otr none) (by omega) (fun g hg => by cases hg)
  have hz4 : vb < w4.heap.size := by rw [s4.other.2.2]; exact hsz
  have hbB : b < W.heap.size + 1 := by omega
  have HFn : Hid ((oneV hV av c F).Blk (fun x => ¬ x = vb)) := HFar.out.mono fun x hx => by omega
  clear V3 Z3 R3 O3 S3 s4 hsz
  have hv : v = 0 ∨ v = 1 ∨ v = 2 ∨ v = 3 ∨ v = 4 ∨ 5 ≤ v := by omega
  rcases hv with rfl | rfl | rfl | rfl | rfl | hv
  · have hb : Below w4.heap.size w4 (w4.alloc (.cells #[.int .i64 (-1), .int .i64 7, .int .i64 5] 3)) := (Below.refl _ _).alloc (Nat.le_refl _) _
    have R5 := R4.below hb
    go_wp2_with fail
    refine (one_any R5 (by omega) w4.heap.size 3 [-1, 7, 5] (by have := HZ2.out; omega) rfl (by omega) (by omega) (cells_list w4 [-1, 7, 5] 3)).mono ?_
    rintro r w5 ⟨⟨z, rfl, hz6⟩, s5⟩
    have HZ6 : Hid (¬ z = 6) := (by unfold Hid; simp at hz6; rcases hz6 with rfl | rfl | rfl <;> decide)
    clear hz6
    have R6 := R5.step s5
    have O45 : Otb b w4 w5 := ((Otb.refl b w4).alloc (.cells #[.int .i64 (-1), .int .i64 7, .int .i64 5] 3)).stepped s5
    have V5 := Row.otb O45 hvb2 V4
    have Z5 := Row.otb O45 hne Z4
    have O5 := O4.trans O45
    have S5 := (S4.any (by omega)).otr (O45.otr none) hbB (fun g hg => by cases hg)
    clear R4 R5 V4 Z4 O4 S4 O45 hb s5
    obtain ⟨t0, f0⟩ := V5 0 _ rfl
    obtain ⟨t1, f1⟩ := V5 1 _ rfl
    obtain ⟨t2, f2⟩ := V5 2 _ rfl
    obtain ⟨t3, f3⟩ := V5 3 _ rfl
    obtain ⟨t4, f4⟩ := V5 4 _ rfl
    obtain ⟨t5, f5⟩ := V5 5 _ rfl
    have V9 := V5.set (i := 0) (by show 0 < 6; omega) (.int .i64 z)
    have Z9 := Z5.setOther (j := vb) (by have := HZ2.out; omega) 0 (.int .i64 z)
    have hb6 := R6.base_leU
    have R9 := R6.set (j := vb) (o := 0) (by have := HZ2.out; omega) (by omega) (.int .i64 z)
    have O9 := O5.set (j := vb) (o := 0) (by have := HZ2.out; omega) (.int .i64 z)
    have S9 := (S5.put (o := 0) hbB HFn.out (.int .i64 z)).head z hV.m hV.e hV.t S5.2.2.2.2.1 (.inr HZ6.out)
    have y00 := (V9 0 _ rfl).1
    clear V5 Z5 O5 S5 R6 V9 y00
    obtain ⟨r0, g0⟩ := Z9 0 _ rfl
    obtain ⟨r1, g1⟩ := Z9 1 _ rfl
    obtain ⟨r2, g2⟩ := Z9 2 _ rfl
    obtain ⟨r3, g3⟩ := Z9 3 _ rfl
    obtain ⟨r4, g4⟩ := Z9 4 _ rfl
    obtain ⟨r5, g5⟩ := Z9 5 _ rfl
    have HP6 := Row.put6 (v0 := .int .i64 ((Hd.mk z hV.m hV.e hV.t hV.na hV.nc hV.ns)).k) (v1 := .int .i64 ((Hd.mk z hV.m hV.e hV.t hV.na hV.nc hV.ns)).m) (v2 := .int .i64 ((Hd.mk z hV.m hV.e hV.t hV.na hV.nc hV.ns)).e) (v3 := .string ((Hd.mk z hV.m hV.e hV.t hV.na hV.nc hV.ns)).t) (v4 := .slice av (F).len c) (v5 := .slice ((Hd.mk z hV.m hV.e hV.t hV.na hV.nc hV.ns)).na ((Hd.mk z hV.m hV.e hV.t hV.na hV.nc hV.ns)).ns.length ((Hd.mk z hV.m hV.e hV.t hV.na hV.nc hV.ns)).nc) Z9
    have HO6 := Otr.put6 b (j := W.heap.size) (o := 0) (w5.setCell ⟨vb, 0, none⟩ (.int .i64 z)) (.int .i64 ((Hd.mk z hV.m hV.e hV.t hV.na hV.nc hV.ns)).k) (.int .i64 ((Hd.mk z hV.m hV.e hV.t hV.na hV.nc hV.ns)).m) (.int .i64 ((Hd.mk z hV.m hV.e hV.t hV.na hV.nc hV.ns)).e) (.string ((Hd.mk z hV.m hV.e hV.t hV.na hV.nc hV.ns)).t) (.slice av (F).len c) (.slice ((Hd.mk z hV.m hV.e hV.t hV.na hV.nc hV.ns)).na ((Hd.mk z hV.m hV.e hV.t hV.na hV.nc hV.ns)).ns.length ((Hd.mk z hV.m hV.e hV.t hV.na hV.nc hV.ns)).nc)
    have hb9 := R9.base_leU
    have S10 := (S9.otr HO6 hbB (fun g hg => by cases hg; omega)).mono (B1 := W.heap.size) (M' := 60) (by omega) (by omega)
    have R10 := R9.uptoU (put6_below (B := W.heap.size) (nb := W.heap.size) (o := 0) (Below.refl _ (w5.setCell ⟨vb, 0, none⟩ (.int .i64 z))) (Nat.le_refl _) (.int .i64 ((Hd.mk z hV.m hV.e hV.t hV.na hV.nc hV.ns)).k) (.int .i64 ((Hd.mk z hV.m hV.e hV.t hV.na hV.nc hV.ns)).m) (.int .i64 ((Hd.mk z hV.m hV.e hV.t hV.na hV.nc hV.ns)).e) (.string ((Hd.mk z hV.m hV.e hV.t hV.na hV.nc hV.ns)).t) (.slice av (F).len c) (.slice ((Hd.mk z hV.m hV.e hV.t hV.na hV.nc hV.ns)).na ((Hd.mk z hV.m hV.e hV.t hV.na hV.nc hV.ns)).ns.length ((Hd.mk z hV.m hV.e hV.t hV.na hV.nc hV.ns)).nc)) hlt (by omega)
    have O10 := O9.upto (put6_below (B := W.heap.size) (nb := W.heap.size) (o := 0) (Below.refl _ (w5.setCell ⟨vb, 0, none⟩ (.int .i64 z))) (Nat.le_refl _) (.int .i64 ((Hd.mk z hV.m hV.e hV.t hV.na hV.nc hV.ns)).k) (.int .i64 ((Hd.mk z hV.m hV.e hV.t hV.na hV.nc hV.ns)).m) (.int .i64 ((Hd.mk z hV.m hV.e hV.t hV.na hV.nc hV.ns)).e) (.string ((Hd.mk z hV.m hV.e hV.t hV.na hV.nc hV.ns)).t) (.slice av (F).len c) (.slice ((Hd.mk z hV.m hV.e hV.t hV.na hV.nc hV.ns)).na ((Hd.mk z hV.m hV.e hV.t hV.na hV.nc hV.ns)).ns.length ((Hd.mk z hV.m hV.e hV.t hV.na hV.nc hV.ns)).nc))
    have HS10 : Hid (AnyS W.heap.size 60 (put6 (w5.setCell ⟨vb, 0, none⟩ (.int .i64 z)) W.heap.size 0 (.int .i64 ((Hd.mk z hV.m hV.e hV.t hV.na hV.nc hV.ns)).k) (.int .i64 ((Hd.mk z hV.m hV.e hV.t hV.na hV.nc hV.ns)).m) (.int .i64 ((Hd.mk z hV.m hV.e hV.t hV.na hV.nc hV.ns)).e) (.string ((Hd.mk z hV.m hV.e hV.t hV.na hV.nc hV.ns)).t) (.slice av (F).len c) (.slice ((Hd.mk z hV.m hV.e hV.t hV.na hV.nc hV.ns)).na ((Hd.mk z hV.m hV.e hV.t hV.na hV.nc hV.ns)).ns.length ((Hd.mk z hV.m hV.e hV.t hV.na hV.nc hV.ns)).nc)) ((Hd.mk z hV.m hV.e hV.t hV.na hV.nc hV.ns)) av c F ∧ Rd w0 B b a len cap _ (put6 (w5.setCell ⟨vb, 0, none⟩ (.int .i64 z)) W.heap.size 0 (.int .i64 ((Hd.mk z hV.m hV.e hV.t hV.na hV.nc hV.ns)).k) (.int .i64 ((Hd.mk z hV.m hV.e hV.t hV.na hV.nc hV.ns)).m) (.int .i64 ((Hd.mk z hV.m hV.e hV.t hV.na hV.nc hV.ns)).e) (.string ((Hd.mk z hV.m hV.e hV.t hV.na hV.nc hV.ns)).t) (.slice av (F).len c) (.slice ((Hd.mk z hV.m hV.e hV.t hV.na hV.nc hV.ns)).na ((Hd.mk z hV.m hV.e hV.t hV.na hV.nc hV.ns)).ns.length ((Hd.mk z hV.m hV.e hV.t hV.na hV.nc hV.ns)).nc)) ∧ Otb b W (put6 (w5.setCell ⟨vb, 0, none⟩ (.int .i64 z)) W.heap.size 0 (.int .i64 ((Hd.mk z hV.m hV.e hV.t hV.na hV.nc hV.ns)).k) (.int .i64 ((Hd.mk z hV.m hV.e hV.t hV.na hV.nc hV.ns)).m) (.int .i64 ((Hd.mk z hV.m hV.e hV.t hV.na hV.nc hV.ns)).e) (.string ((Hd.mk z hV.m hV.e hV.t hV.na hV.nc hV.ns)).t) (.slice av (F).len c) (.slice ((Hd.mk z hV.m hV.e hV.t hV.na hV.nc hV.ns)).na ((Hd.mk z hV.m hV.e hV.t hV.na hV.nc hV.ns)).ns.length ((Hd.mk z hV.m hV.e hV.t hV.na hV.nc hV.ns)).nc))) := ⟨S10, R10, O10⟩
    clear Z9 S9 R9 O9 HO6 S10 R10 O10
    go_wp2_with fail
    show bodyPost Try.prog Try.f22 _ Exit.ret _ (put6 (w5.setCell ⟨vb, 0, none⟩ (.int .i64 z)) W.heap.size 0 (.int .i64 ((Hd.mk z hV.m hV.e hV.t hV.na hV.nc hV.ns)).k) (.int .i64 ((Hd.mk z hV.m hV.e hV.t hV.na hV.nc hV.ns)).m) (.int .i64 ((Hd.mk z hV.m hV.e hV.t hV.na hV.nc hV.ns)).e) (.string ((Hd.mk z hV.m hV.e hV.t hV.na hV.nc hV.ns)).t) (.slice av (F).len c) (.slice ((Hd.mk z hV.m hV.e hV.t hV.na hV.nc hV.ns)).na ((Hd.mk z hV.m hV.e hV.t hV.na hV.nc hV.ns)).ns.length ((Hd.mk z hV.m hV.e hV.t hV.na hV.nc hV.ns)).nc))
    generalize put6 (w5.setCell ⟨vb, 0, none⟩ (.int .i64 z)) W.heap.size 0 (.int .i64 ((Hd.mk z hV.m hV.e hV.t hV.na hV.nc hV.ns)).k) (.int .i64 ((Hd.mk z hV.m hV.e hV.t hV.na hV.nc hV.ns)).m) (.int .i64 ((Hd.mk z hV.m hV.e hV.t hV.na hV.nc hV.ns)).e) (.string ((Hd.mk z hV.m hV.e hV.t hV.na hV.nc hV.ns)).t) (.slice av (F).len c) (.slice ((Hd.mk z hV.m hV.e hV.t hV.na hV.nc hV.ns)).na ((Hd.mk z hV.m hV.e hV.t hV.na hV.nc hV.ns)).ns.length ((Hd.mk z hV.m hV.e hV.t hV.na hV.nc hV.ns)).nc) = W6 at *
    have y0 := (HP6 0 _ rfl).1
    have y1 := (HP6 1 _ rfl).1
    have y2 := (HP6 2 _ rfl).1
    have y3 := (HP6 3 _ rfl).1
    have y4 := (HP6 4 _ rfl).1
    have y5 := (HP6 5 _ rfl).1
    obtain ⟨z1, z2, z3⟩ := HS10.out
    refine bodyPost_ret (v := valV ((Hd.mk z hV.m hV.e hV.t hV.na hV.nc hV.ns)) av (F).len c) (by simp [results, Try.results22, go_sem, y0, y1, y2, y3, y4, y5]) rfl (by first | exact ⟨(Hd.mk z hV.m hV.e hV.t hV.na hV.nc hV.ns), F, av, c, _, rfl, z1, by omega, z2, z3⟩ | exact ⟨(Hd.mk z hV.m hV.e hV.t hV.na hV.nc hV.ns), F, av, c, rfl, z1, _, by omega, z2, z3⟩)
  · obtain ⟨i0, hi, hy0, hy1, hy2⟩ := info_parts textInfo
    obtain ⟨t0, f0⟩ := V4 0 _ rfl
    obtain ⟨t1, f1⟩ := V4 1 _ rfl
    obtain ⟨t2, f2⟩ := V4 2 _ rfl
    obtain ⟨t3, f3⟩ := V4 3 _ rfl
    obtain ⟨t4, f4⟩ := V4 4 _ rfl
    obtain ⟨t5, f5⟩ := V4 5 _ rfl
    have hnl : hV.ns.length ≤ 3 := S4.1.2.1
    have hown := S4.2.2.1
    have hWw : W.heap.size + 1 ≤ w4.heap.size := by have := HZ2.out; omega
    go_wp2_with (
    at_builtin
    refine wpList_append_lies _ rfl _ _ 26 rfl (W.heap.size + 1) 9 i0 (.string ⟨#[]⟩) 1 16 Try.underlying26 hi hy0 hy1 hy2 rfl (by decide) (.slice hV.na hV.ns.length hV.nc) hV.ns.length (texts hV.ns) rfl (hown.alloc _) ⟨w4.heap.size, 0, none⟩ 1 1 [.string ⟨#[97]⟩] rfl rfl (cell_one_new _ _ _) (fun x hx => by simp at hx; subst hx; rfl) (by omega) (by unfold maxLen; omega) (by omega) (by simp; omega) _ rfl ?_
    intro g cc w5 hown5 hgr5 hat5 hlt5
    rw [ownBlock_blkOf] at hgr5 hat5
    have O45 : Otr b (blkOf hV.na) w4 w5 := ((Otr.refl b _ w4).below ((Below.refl _ _).alloc (Nat.le_refl _) _)).grown hgr5
    have hnvb2 : some vb ≠ blkOf hV.na := fun e => by have := (HNv.out vb e.symm).2; omega
    have hnrb2 : some W.heap.size ≠ blkOf hV.na := fun e => by have := (HNv.out _ e.symm).1; omega
    have V5 := O45.row hvb2 hnvb2 V4
    have Z5 := O45.row hne hnrb2 Z4
    have hown6 : w5.ownsRow (W.heap.size + 1) 9 1 (.slice (some ⟨g, 0, none⟩) (hV.ns.length + 1) cc) (hV.ns.length + 1) (texts (hV.ns ++ [⟨#[97]⟩])) := by unfold texts; rw [List.map_append]; exact hown5
    have hob5 : blkOf (some (⟨g, 0, none⟩ : Addr)) = blkOf hV.na ∨ ∃ g', blkOf (some (⟨g, 0, none⟩ : Addr)) = some g' ∧ vb < g' := by
      rcases hat5 with e | e
      · exact .inl e.symm
      · exact .inr ⟨g, rfl, by simp at e; omega⟩
    obtain ⟨S5, hF5⟩ := S4.name (b := b) (vb := vb) hbB HFar.out hob5 (fun x hx => by have := (HNv.out x hx).2; omega) (Nat.le_refl _) (by decide) O45 hown6
    have R5 : Rd w0 B b a len cap (p2 + 1) w5 := R4.uptoU (B' := W.heap.size) ((((Below.refl _ w4).alloc (by omega) _)).grown hgr5 (by simp; omega) (fun k hk => by have := (HNv.out k hk).1; omega)) hlt (by have := R4.base_leU; omega)
    have O5 : Otb b W w5 := ⟨Nat.le_trans O4.1 O45.1, fun x h1 h2 => (O45.2 x (Nat.lt_of_lt_of_le h1 O4.1) h2 (fun e => by have := (HNv.out x e.symm).1; omega)).trans (O4.2 x h1 h2)⟩
    obtain ⟨u5, e5⟩ := V5 5 _ rfl
    obtain ⟨u0, _⟩ := V5 0 _ rfl
    obtain ⟨u1, _⟩ := V5 1 _ rfl
    obtain ⟨u2, _⟩ := V5 2 _ rfl
    obtain ⟨u3, _⟩ := V5 3 _ rfl
    obtain ⟨u4, _⟩ := V5 4 _ rfl
    have Z9 := Z5.setOther (j := vb) (by have := HZ2.out; omega) 5 (.slice (some ⟨g, 0, none⟩) (hV.ns.length + 1) cc)
    have R9 := R5.set (j := vb) (o := 5) (by have := HZ2.out; have := R4.base_leU; omega) (by omega) (.slice (some ⟨g, 0, none⟩) (hV.ns.length + 1) cc)
    have O9 := O5.set (j := vb) (o := 5) (by have := HZ2.out; omega) (.slice (some ⟨g, 0, none⟩) (hV.ns.length + 1) cc)
    have S9 := S5.put (o := 5) hbB hF5 (.slice (some ⟨g, 0, none⟩) (hV.ns.length + 1) cc)
    have hlen : (hV.ns ++ [(⟨#[97]⟩ : ByteArray)]).length = hV.ns.length + 1 := by simp
    clear V5 Z5 O5 R5 S5 hown6 hown5 hgr5 hat5 hob5 V4 Z4 O4 R4 S4 O45 hnvb2 hnrb2 t0 t1 t2 t3 t4 t5 f0 f1 f2 f3 f4 f5 hown hF5
    obtain ⟨r0, g0⟩ := Z9 0 _ rfl
    obtain ⟨r1, g1⟩ := Z9 1 _ rfl
    obtain ⟨r2, g2⟩ := Z9 2 _ rfl
    obtain ⟨r3, g3⟩ := Z9 3 _ rfl
    obtain ⟨r4, g4⟩ := Z9 4 _ rfl
    obtain ⟨r5, g5⟩ := Z9 5 _ rfl
    have HP6 := Row.put6 (v0 := .int .i64 ((Hd.mk hV.k hV.m hV.e hV.t (some ⟨g, 0, none⟩) cc (hV.ns ++ [⟨#[97]⟩]))).k) (v1 := .int .i64 ((Hd.mk hV.k hV.m hV.e hV.t (some ⟨g, 0, none⟩) cc (hV.ns ++ [⟨#[97]⟩]))).m) (v2 := .int .i64 ((Hd.mk hV.k hV.m hV.e hV.t (some ⟨g, 0, none⟩) cc (hV.ns ++ [⟨#[97]⟩]))).e) (v3 := .string ((Hd.mk hV.k hV.m hV.e hV.t (some ⟨g, 0, none⟩) cc (hV.ns ++ [⟨#[97]⟩]))).t) (v4 := .slice av (F).len c) (v5 := .slice ((Hd.mk hV.k hV.m hV.e hV.t (some ⟨g, 0, none⟩) cc (hV.ns ++ [⟨#[97]⟩]))).na (hV.ns.length + 1) ((Hd.mk hV.k hV.m hV.e hV.t (some ⟨g, 0, none⟩) cc (hV.ns ++ [⟨#[97]⟩]))).nc) Z9
    have HO6 := Otr.put6 b (j := W.heap.size) (o := 0) (w5.setCell ⟨vb, 5, none⟩ (.slice (some ⟨g, 0, none⟩) (hV.ns.length + 1) cc)) (.int .i64 ((Hd.mk hV.k hV.m hV.e hV.t (some ⟨g, 0, none⟩) cc (hV.ns ++ [⟨#[97]⟩]))).k) (.int .i64 ((Hd.mk hV.k hV.m hV.e hV.t (some ⟨g, 0, none⟩) cc (hV.ns ++ [⟨#[97]⟩]))).m) (.int .i64 ((Hd.mk hV.k hV.m hV.e hV.t (some ⟨g, 0, none⟩) cc (hV.ns ++ [⟨#[97]⟩]))).e) (.string ((Hd.mk hV.k hV.m hV.e hV.t (some ⟨g, 0, none⟩) cc (hV.ns ++ [⟨#[97]⟩]))).t) (.slice av (F).len c) (.slice ((Hd.mk hV.k hV.m hV.e hV.t (some ⟨g, 0, none⟩) cc (hV.ns ++ [⟨#[97]⟩]))).na (hV.ns.length + 1) ((Hd.mk hV.k hV.m hV.e hV.t (some ⟨g, 0, none⟩) cc (hV.ns ++ [⟨#[97]⟩]))).nc)
    have hb9 := R9.base_leU
    have S10 := (S9.otr HO6 hbB (fun g hg => by cases hg; omega)).mono (B1 := W.heap.size) (M' := 60) (by omega) (by omega)
    have R10 := R9.uptoU (put6_below (B := W.heap.size) (nb := W.heap.size) (o := 0) (Below.refl _ (w5.setCell ⟨vb, 5, none⟩ (.slice (some ⟨g, 0, none⟩) (hV.ns.length + 1) cc))) (Nat.le_refl _) (.int .i64 ((Hd.mk hV.k hV.m hV.e hV.t (some ⟨g, 0, none⟩) cc (hV.ns ++ [⟨#[97]⟩]))).k) (.int .i64 ((Hd.mk hV.k hV.m hV.e hV.t (some ⟨g, 0, none⟩) cc (hV.ns ++ [⟨#[97]⟩]))).m) (.int .i64 ((Hd.mk hV.k hV.m hV.e hV.t (some ⟨g, 0, none⟩) cc (hV.ns ++ [⟨#[97]⟩]))).e) (.string ((Hd.mk hV.k hV.m hV.e hV.t (some ⟨g, 0, none⟩) cc (hV.ns ++ [⟨#[97]⟩]))).t) (.slice av (F).len c) (.slice ((Hd.mk hV.k hV.m hV.e hV.t (some ⟨g, 0, none⟩) cc (hV.ns ++ [⟨#[97]⟩]))).na (hV.ns.length + 1) ((Hd.mk hV.k hV.m hV.e hV.t (some ⟨g, 0, none⟩) cc (hV.ns ++ [⟨#[97]⟩]))).nc)) hlt (by omega)
    have O10 := O9.upto (put6_below (B := W.heap.size) (nb := W.heap.size) (o := 0) (Below.refl _ (w5.setCell ⟨vb, 5, none⟩ (.slice (some ⟨g, 0, none⟩) (hV.ns.length + 1) cc))) (Nat.le_refl _) (.int .i64 ((Hd.mk hV.k hV.m hV.e hV.t (some ⟨g, 0, none⟩) cc (hV.ns ++ [⟨#[97]⟩]))).k) (.int .i64 ((Hd.mk hV.k hV.m hV.e hV.t (some ⟨g, 0, none⟩) cc (hV.ns ++ [⟨#[97]⟩]))).m) (.int .i64 ((Hd.mk hV.k hV.m hV.e hV.t (some ⟨g, 0, none⟩) cc (hV.ns ++ [⟨#[97]⟩]))).e) (.string ((Hd.mk hV.k hV.m hV.e hV.t (some ⟨g, 0, none⟩) cc (hV.ns ++ [⟨#[97]⟩]))).t) (.slice av (F).len c) (.slice ((Hd.mk hV.k hV.m hV.e hV.t (some ⟨g, 0, none⟩) cc (hV.ns ++ [⟨#[97]⟩]))).na (hV.ns.length + 1) ((Hd.mk hV.k hV.m hV.e hV.t (some ⟨g, 0, none⟩) cc (hV.ns ++ [⟨#[97]⟩]))).nc))
    have HS10 : Hid (AnyS W.heap.size 60 (put6 (w5.setCell ⟨vb, 5, none⟩ (.slice (some ⟨g, 0, none⟩) (hV.ns.length + 1) cc)) W.heap.size 0 (.int .i64 ((Hd.mk hV.k hV.m hV.e hV.t (some ⟨g, 0, none⟩) cc (hV.ns ++ [⟨#[97]⟩]))).k) (.int .i64 ((Hd.mk hV.k hV.m hV.e hV.t (some ⟨g, 0, none⟩) cc (hV.ns ++ [⟨#[97]⟩]))).m) (.int .i64 ((Hd.mk hV.k hV.m hV.e hV.t (some ⟨g, 0, none⟩) cc (hV.ns ++ [⟨#[97]⟩]))).e) (.string ((Hd.mk hV.k hV.m hV.e hV.t (some ⟨g, 0, none⟩) cc (hV.ns ++ [⟨#[97]⟩]))).t) (.slice av (F).len c) (.slice ((Hd.mk hV.k hV.m hV.e hV.t (some ⟨g, 0, none⟩) cc (hV.ns ++ [⟨#[97]⟩]))).na (hV.ns.length + 1) ((Hd.mk hV.k hV.m hV.e hV.t (some ⟨g, 0, none⟩) cc (hV.ns ++ [⟨#[97]⟩]))).nc)) ((Hd.mk hV.k hV.m hV.e hV.t (some ⟨g, 0, none⟩) cc (hV.ns ++ [⟨#[97]⟩]))) av c F ∧ Rd w0 B b a len cap _ (put6 (w5.setCell ⟨vb, 5, none⟩ (.slice (some ⟨g, 0, none⟩) (hV.ns.length + 1) cc)) W.heap.size 0 (.int .i64 ((Hd.mk hV.k hV.m hV.e hV.t (some ⟨g, 0, none⟩) cc (hV.ns ++ [⟨#[97]⟩]))).k) (.int .i64 ((Hd.mk hV.k hV.m hV.e hV.t (some ⟨g, 0, none⟩) cc (hV.ns ++ [⟨#[97]⟩]))).m) (.int .i64 ((Hd.mk hV.k hV.m hV.e hV.t (some ⟨g, 0, none⟩) cc (hV.ns ++ [⟨#[97]⟩]))).e) (.string ((Hd.mk hV.k hV.m hV.e hV.t (some ⟨g, 0, none⟩) cc (hV.ns ++ [⟨#[97]⟩]))).t) (.slice av (F).len c) (.slice ((Hd.mk hV.k hV.m hV.e hV.t (some ⟨g, 0, none⟩) cc (hV.ns ++ [⟨#[97]⟩]))).na (hV.ns.length + 1) ((Hd.mk hV.k hV.m hV.e hV.t (some ⟨g, 0, none⟩) cc (hV.ns ++ [⟨#[97]⟩]))).nc)) ∧ Otb b W (put6 (w5.setCell ⟨vb, 5, none⟩ (.slice (some ⟨g, 0, none⟩) (hV.ns.length + 1) cc)) W.heap.size 0 (.int .i64 ((Hd.mk hV.k hV.m hV.e hV.t (some ⟨g, 0, none⟩) cc (hV.ns ++ [⟨#[97]⟩]))).k) (.int .i64 ((Hd.mk hV.k hV.m hV.e hV.t (some ⟨g, 0, none⟩) cc (hV.ns ++ [⟨#[97]⟩]))).m) (.int .i64 ((Hd.mk hV.k hV.m hV.e hV.t (some ⟨g, 0, none⟩) cc (hV.ns ++ [⟨#[97]⟩]))).e) (.string ((Hd.mk hV.k hV.m hV.e hV.t (some ⟨g, 0, none⟩) cc (hV.ns ++ [⟨#[97]⟩]))).t) (.slice av (F).len c) (.slice ((Hd.mk hV.k hV.m hV.e hV.t (some ⟨g, 0, none⟩) cc (hV.ns ++ [⟨#[97]⟩]))).na (hV.ns.length + 1) ((Hd.mk hV.k hV.m hV.e hV.t (some ⟨g, 0, none⟩) cc (hV.ns ++ [⟨#[97]⟩]))).nc))) := ⟨S10, R10, O10⟩
    clear Z9 S9 R9 O9 HO6 S10 R10 O10
    )
    show bodyPost Try.prog Try.f22 _ Exit.ret _ (put6 (w5.setCell ⟨vb, 5, none⟩ (.slice (some ⟨g, 0, none⟩) (hV.ns.length + 1) cc)) W.heap.size 0 (.int .i64 ((Hd.mk hV.k hV.m hV.e hV.t (some ⟨g, 0, none⟩) cc (hV.ns ++ [⟨#[97]⟩]))).k) (.int .i64 ((Hd.mk hV.k hV.m hV.e hV.t (some ⟨g, 0, none⟩) cc (hV.ns ++ [⟨#[97]⟩]))).m) (.int .i64 ((Hd.mk hV.k hV.m hV.e hV.t (some ⟨g, 0, none⟩) cc (hV.ns ++ [⟨#[97]⟩]))).e) (.string ((Hd.mk hV.k hV.m hV.e hV.t (some ⟨g, 0, none⟩) cc (hV.ns ++ [⟨#[97]⟩]))).t) (.slice av (F).len c) (.slice ((Hd.mk hV.k hV.m hV.e hV.t (some ⟨g, 0, none⟩) cc (hV.ns ++ [⟨#[97]⟩]))).na (hV.ns.length + 1) ((Hd.mk hV.k hV.m hV.e hV.t (some ⟨g, 0, none⟩) cc (hV.ns ++ [⟨#[97]⟩]))).nc))
    generalize put6 (w5.setCell ⟨vb, 5, none⟩ (.slice (some ⟨g, 0, none⟩) (hV.ns.length + 1) cc)) W.heap.size 0 (.int .i64 ((Hd.mk hV.k hV.m hV.e hV.t (some ⟨g, 0, none⟩) cc (hV.ns ++ [⟨#[97]⟩]))).k) (.int .i64 ((Hd.mk hV.k hV.m hV.e hV.t (some ⟨g, 0, none⟩) cc (hV.ns ++ [⟨#[97]⟩]))).m) (.int .i64 ((Hd.mk hV.k hV.m hV.e hV.t (some ⟨g, 0, none⟩) cc (hV.ns ++ [⟨#[97]⟩]))).e) (.string ((Hd.mk hV.k hV.m hV.e hV.t (some ⟨g, 0, none⟩) cc (hV.ns ++ [⟨#[97]⟩]))).t) (.slice av (F).len c) (.slice ((Hd.mk hV.k hV.m hV.e hV.t (some ⟨g, 0, none⟩) cc (hV.ns ++ [⟨#[97]⟩]))).na (hV.ns.length + 1) ((Hd.mk hV.k hV.m hV.e hV.t (some ⟨g, 0, none⟩) cc (hV.ns ++ [⟨#[97]⟩]))).nc) = W6 at *
    have y0 := (HP6 0 _ rfl).1
    have y1 := (HP6 1 _ rfl).1
    have y2 := (HP6 2 _ rfl).1
    have y3 := (HP6 3 _ rfl).1
    have y4 := (HP6 4 _ rfl).1
    have y5 := (HP6 5 _ rfl).1
    obtain ⟨z1, z2, z3⟩ := HS10.out
    refine bodyPost_ret (v := valV ((Hd.mk hV.k hV.m hV.e hV.t (some ⟨g, 0, none⟩) cc (hV.ns ++ [⟨#[97]⟩]))) av (F).len c) (by simp [results, Try.results22, go_sem, y0, y1, y2, y3, y4, y5]) rfl (by first | exact ⟨(Hd.mk hV.k hV.m hV.e hV.t (some ⟨g, 0, none⟩) cc (hV.ns ++ [⟨#[97]⟩])), F, av, c, _, rfl, z1, by omega, z2, z3⟩ | exact ⟨(Hd.mk hV.k hV.m hV.e hV.t (some ⟨g, 0, none⟩) cc (hV.ns ++ [⟨#[97]⟩])), F, av, c, rfl, z1, _, by omega, z2, z3⟩)
  · skip
    obtain ⟨t0, f0⟩ := V4 0 _ rfl
    obtain ⟨t1, f1⟩ := V4 1 _ rfl
    obtain ⟨t2, f2⟩ := V4 2 _ rfl
    obtain ⟨t3, f3⟩ := V4 3 _ rfl
    obtain ⟨t4, f4⟩ := V4 4 _ rfl
    obtain ⟨t5, f5⟩ := V4 5 _ rfl
    have Z9 := ((Z4).setOther (j := vb) (by have := HZ2.out; omega) 1 (.int .i64 10)).setOther (j := vb) (by have := HZ2.out; omega) 2 (.int .i64 0)
    have R9 := ((R4).set (j := vb) (o := 1) (by have := HZ2.out; have := R4.base_leU; omega) (by omega) (.int .i64 10)).set (j := vb) (o := 2) (by have := HZ2.out; have := R4.base_leU; omega) (by omega) (.int .i64 0)
    have O9 := ((O4).set (j := vb) (o := 1) (by have := HZ2.out; omega) (.int .i64 10)).set (j := vb) (o := 2) (by have := HZ2.out; omega) (.int .i64 0)
    have S9 := (((S4.any (by omega)).put (o := 1) hbB HFn.out (.int .i64 10)).put (o := 2) hbB HFn.out (.int .i64 0)).head hV.k 10 0 hV.t S4.1.2.2.1 (.inl rfl)
    clear V4 Z4 O4 S4 R4
    obtain ⟨r0, g0⟩ := Z9 0 _ rfl
    obtain ⟨r1, g1⟩ := Z9 1 _ rfl
    obtain ⟨r2, g2⟩ := Z9 2 _ rfl
    obtain ⟨r3, g3⟩ := Z9 3 _ rfl
    obtain ⟨r4, g4⟩ := Z9 4 _ rfl
    obtain ⟨r5, g5⟩ := Z9 5 _ rfl
    have HP6 := Row.put6 (v0 := .int .i64 ((Hd.mk hV.k 10 0 hV.t hV.na hV.nc hV.ns)).k) (v1 := .int .i64 ((Hd.mk hV.k 10 0 hV.t hV.na hV.nc hV.ns)).m) (v2 := .int .i64 ((Hd.mk hV.k 10 0 hV.t hV.na hV.nc hV.ns)).e) (v3 := .string ((Hd.mk hV.k 10 0 hV.t hV.na hV.nc hV.ns)).t) (v4 := .slice av (F).len c) (v5 := .slice ((Hd.mk hV.k 10 0 hV.t hV.na hV.nc hV.ns)).na ((Hd.mk hV.k 10 0 hV.t hV.na hV.nc hV.ns)).ns.length ((Hd.mk hV.k 10 0 hV.t hV.na hV.nc hV.ns)).nc) Z9
    have HO6 := Otr.put6 b (j := W.heap.size) (o := 0) ((w4.setCell ⟨vb, 1, none⟩ (.int .i64 10)).setCell ⟨vb, 2, none⟩ (.int .i64 0)) (.int .i64 ((Hd.mk hV.k 10 0 hV.t hV.na hV.nc hV.ns)).k) (.int .i64 ((Hd.mk hV.k 10 0 hV.t hV.na hV.nc hV.ns)).m) (.int .i64 ((Hd.mk hV.k 10 0 hV.t hV.na hV.nc hV.ns)).e) (.string ((Hd.mk hV.k 10 0 hV.t hV.na hV.nc hV.ns)).t) (.slice av (F).len c) (.slice ((Hd.mk hV.k 10 0 hV.t hV.na hV.nc hV.ns)).na ((Hd.mk hV.k 10 0 hV.t hV.na hV.nc hV.ns)).ns.length ((Hd.mk hV.k 10 0 hV.t hV.na hV.nc hV.ns)).nc)
    have hb9 := R9.base_leU
    have S10 := (S9.otr HO6 hbB (fun g hg => by cases hg; omega)).mono (B1 := W.heap.size) (M' := 60) (by omega) (by omega)
    have R10 := R9.uptoU (put6_below (B := W.heap.size) (nb := W.heap.size) (o := 0) (Below.refl _ ((w4.setCell ⟨vb, 1, none⟩ (.int .i64 10)).setCell ⟨vb, 2, none⟩ (.int .i64 0))) (Nat.le_refl _) (.int .i64 ((Hd.mk hV.k 10 0 hV.t hV.na hV.nc hV.ns)).k) (.int .i64 ((Hd.mk hV.k 10 0 hV.t hV.na hV.nc hV.ns)).m) (.int .i64 ((Hd.mk hV.k 10 0 hV.t hV.na hV.nc hV.ns)).e) (.string ((Hd.mk hV.k 10 0 hV.t hV.na hV.nc hV.ns)).t) (.slice av (F).len c) (.slice ((Hd.mk hV.k 10 0 hV.t hV.na hV.nc hV.ns)).na ((Hd.mk hV.k 10 0 hV.t hV.na hV.nc hV.ns)).ns.length ((Hd.mk hV.k 10 0 hV.t hV.na hV.nc hV.ns)).nc)) hlt (by omega)
    have O10 := O9.upto (put6_below (B := W.heap.size) (nb := W.heap.size) (o := 0) (Below.refl _ ((w4.setCell ⟨vb, 1, none⟩ (.int .i64 10)).setCell ⟨vb, 2, none⟩ (.int .i64 0))) (Nat.le_refl _) (.int .i64 ((Hd.mk hV.k 10 0 hV.t hV.na hV.nc hV.ns)).k) (.int .i64 ((Hd.mk hV.k 10 0 hV.t hV.na hV.nc hV.ns)).m) (.int .i64 ((Hd.mk hV.k 10 0 hV.t hV.na hV.nc hV.ns)).e) (.string ((Hd.mk hV.k 10 0 hV.t hV.na hV.nc hV.ns)).t) (.slice av (F).len c) (.slice ((Hd.mk hV.k 10 0 hV.t hV.na hV.nc hV.ns)).na ((Hd.mk hV.k 10 0 hV.t hV.na hV.nc hV.ns)).ns.length ((Hd.mk hV.k 10 0 hV.t hV.na hV.nc hV.ns)).nc))
    have HS10 : Hid (AnyS W.heap.size 60 (put6 ((w4.setCell ⟨vb, 1, none⟩ (.int .i64 10)).setCell ⟨vb, 2, none⟩ (.int .i64 0)) W.heap.size 0 (.int .i64 ((Hd.mk hV.k 10 0 hV.t hV.na hV.nc hV.ns)).k) (.int .i64 ((Hd.mk hV.k 10 0 hV.t hV.na hV.nc hV.ns)).m) (.int .i64 ((Hd.mk hV.k 10 0 hV.t hV.na hV.nc hV.ns)).e) (.string ((Hd.mk hV.k 10 0 hV.t hV.na hV.nc hV.ns)).t) (.slice av (F).len c) (.slice ((Hd.mk hV.k 10 0 hV.t hV.na hV.nc hV.ns)).na ((Hd.mk hV.k 10 0 hV.t hV.na hV.nc hV.ns)).ns.length ((Hd.mk hV.k 10 0 hV.t hV.na hV.nc hV.ns)).nc)) ((Hd.mk hV.k 10 0 hV.t hV.na hV.nc hV.ns)) av c F ∧ Rd w0 B b a len cap _ (put6 ((w4.setCell ⟨vb, 1, none⟩ (.int .i64 10)).setCell ⟨vb, 2, none⟩ (.int .i64 0)) W.heap.size 0 (.int .i64 ((Hd.mk hV.k 10 0 hV.t hV.na hV.nc hV.ns)).k) (.int .i64 ((Hd.mk hV.k 10 0 hV.t hV.na hV.nc hV.ns)).m) (.int .i64 ((Hd.mk hV.k 10 0 hV.t hV.na hV.nc hV.ns)).e) (.string ((Hd.mk hV.k 10 0 hV.t hV.na hV.nc hV.ns)).t) (.slice av (F).len c) (.slice ((Hd.mk hV.k 10 0 hV.t hV.na hV.nc hV.ns)).na ((Hd.mk hV.k 10 0 hV.t hV.na hV.nc hV.ns)).ns.length ((Hd.mk hV.k 10 0 hV.t hV.na hV.nc hV.ns)).nc)) ∧ Otb b W (put6 ((w4.setCell ⟨vb, 1, none⟩ (.int .i64 10)).setCell ⟨vb, 2, none⟩ (.int .i64 0)) W.heap.size 0 (.int .i64 ((Hd.mk hV.k 10 0 hV.t hV.na hV.nc hV.ns)).k) (.int .i64 ((Hd.mk hV.k 10 0 hV.t hV.na hV.nc hV.ns)).m) (.int .i64 ((Hd.mk hV.k 10 0 hV.t hV.na hV.nc hV.ns)).e) (.string ((Hd.mk hV.k 10 0 hV.t hV.na hV.nc hV.ns)).t) (.slice av (F).len c) (.slice ((Hd.mk hV.k 10 0 hV.t hV.na hV.nc hV.ns)).na ((Hd.mk hV.k 10 0 hV.t hV.na hV.nc hV.ns)).ns.length ((Hd.mk hV.k 10 0 hV.t hV.na hV.nc hV.ns)).nc))) := ⟨S10, R10, O10⟩
    clear Z9 S9 R9 O9 HO6 S10 R10 O10
    go_wp2_with fail
    show bodyPost Try.prog Try.f22 _ Exit.ret _ (put6 ((w4.setCell ⟨vb, 1, none⟩ (.int .i64 10)).setCell ⟨vb, 2, none⟩ (.int .i64 0)) W.heap.size 0 (.int .i64 ((Hd.mk hV.k 10 0 hV.t hV.na hV.nc hV.ns)).k) (.int .i64 ((Hd.mk hV.k 10 0 hV.t hV.na hV.nc hV.ns)).m) (.int .i64 ((Hd.mk hV.k 10 0 hV.t hV.na hV.nc hV.ns)).e) (.string ((Hd.mk hV.k 10 0 hV.t hV.na hV.nc hV.ns)).t) (.slice av (F).len c) (.slice ((Hd.mk hV.k 10 0 hV.t hV.na hV.nc hV.ns)).na ((Hd.mk hV.k 10 0 hV.t hV.na hV.nc hV.ns)).ns.length ((Hd.mk hV.k 10 0 hV.t hV.na hV.nc hV.ns)).nc))
    generalize put6 ((w4.setCell ⟨vb, 1, none⟩ (.int .i64 10)).setCell ⟨vb, 2, none⟩ (.int .i64 0)) W.heap.size 0 (.int .i64 ((Hd.mk hV.k 10 0 hV.t hV.na hV.nc hV.ns)).k) (.int .i64 ((Hd.mk hV.k 10 0 hV.t hV.na hV.nc hV.ns)).m) (.int .i64 ((Hd.mk hV.k 10 0 hV.t hV.na hV.nc hV.ns)).e) (.string ((Hd.mk hV.k 10 0 hV.t hV.na hV.nc hV.ns)).t) (.slice av (F).len c) (.slice ((Hd.mk hV.k 10 0 hV.t hV.na hV.nc hV.ns)).na ((Hd.mk hV.k 10 0 hV.t hV.na hV.nc hV.ns)).ns.length ((Hd.mk hV.k 10 0 hV.t hV.na hV.nc hV.ns)).nc) = W6 at *
    have y0 := (HP6 0 _ rfl).1
    have y1 := (HP6 1 _ rfl).1
    have y2 := (HP6 2 _ rfl).1
    have y3 := (HP6 3 _ rfl).1
    have y4 := (HP6 4 _ rfl).1
    have y5 := (HP6 5 _ rfl).1
    obtain ⟨z1, z2, z3⟩ := HS10.out
    refine bodyPost_ret (v := valV ((Hd.mk hV.k 10 0 hV.t hV.na hV.nc hV.ns)) av (F).len c) (by simp [results, Try.results22, go_sem, y0, y1, y2, y3, y4, y5]) rfl (by first | exact ⟨(Hd.mk hV.k 10 0 hV.t hV.na hV.nc hV.ns), F, av, c, _, rfl, z1, by omega, z2, z3⟩ | exact ⟨(Hd.mk hV.k 10 0 hV.t hV.na hV.nc hV.ns), F, av, c, rfl, z1, _, by omega, z2, z3⟩)
  · skip
    obtain ⟨t0, f0⟩ := V4 0 _ rfl
    obtain ⟨t1, f1⟩ := V4 1 _ rfl
    obtain ⟨t2, f2⟩ := V4 2 _ rfl
    obtain ⟨t3, f3⟩ := V4 3 _ rfl
    obtain ⟨t4, f4⟩ := V4 4 _ rfl
    obtain ⟨t5, f5⟩ := V4 5 _ rfl
    have Z9 := (Z4).setOther (j := vb) (by have := HZ2.out; omega) 3 (.string ⟨#[120]⟩)
    have R9 := (R4).set (j := vb) (o := 3) (by have := HZ2.out; have := R4.base_leU; omega) (by omega) (.string ⟨#[120]⟩)
    have O9 := (O4).set (j := vb) (o := 3) (by have := HZ2.out; omega) (.string ⟨#[120]⟩)
    have S9 := ((S4.any (by omega)).put (o := 3) hbB HFn.out (.string ⟨#[120]⟩)).head hV.k hV.m hV.e ⟨#[120]⟩ (by decide) (.inl rfl)
    clear V4 Z4 O4 S4 R4
    obtain ⟨r0, g0⟩ := Z9 0 _ rfl
    obtain ⟨r1, g1⟩ := Z9 1 _ rfl
    obtain ⟨r2, g2⟩ := Z9 2 _ rfl
    obtain ⟨r3, g3⟩ := Z9 3 _ rfl
    obtain ⟨r4, g4⟩ := Z9 4 _ rfl
    obtain ⟨r5, g5⟩ := Z9 5 _ rfl
    have HP6 := Row.put6 (v0 := .int .i64 ((Hd.mk hV.k hV.m hV.e ⟨#[120]⟩ hV.na hV.nc hV.ns)).k) (v1 := .int .i64 ((Hd.mk hV.k hV.m hV.e ⟨#[120]⟩ hV.na hV.nc hV.ns)).m) (v2 := .int .i64 ((Hd.mk hV.k hV.m hV.e ⟨#[120]⟩ hV.na hV.nc hV.ns)).e) (v3 := .string ((Hd.mk hV.k hV.m hV.e ⟨#[120]⟩ hV.na hV.nc hV.ns)).t) (v4 := .slice av (F).len c) (v5 := .slice ((Hd.mk hV.k hV.m hV.e ⟨#[120]⟩ hV.na hV.nc hV.ns)).na ((Hd.mk hV.k hV.m hV.e ⟨#[120]⟩ hV.na hV.nc hV.ns)).ns.length ((Hd.mk hV.k hV.m hV.e ⟨#[120]⟩ hV.na hV.nc hV.ns)).nc) Z9
    have HO6 := Otr.put6 b (j := W.heap.size) (o := 0) (w4.setCell ⟨vb, 3, none⟩ (.string ⟨#[120]⟩)) (.int .i64 ((Hd.mk hV.k hV.m hV.e ⟨#[120]⟩ hV.na hV.nc hV.ns)).k) (.int .i64 ((Hd.mk hV.k hV.m hV.e ⟨#[120]⟩ hV.na hV.nc hV.ns)).m) (.int .i64 ((Hd.mk hV.k hV.m hV.e ⟨#[120]⟩ hV.na hV.nc hV.ns)).e) (.string ((Hd.mk hV.k hV.m hV.e ⟨#[120]⟩ hV.na hV.nc hV.ns)).t) (.slice av (F).len c) (.slice ((Hd.mk hV.k hV.m hV.e ⟨#[120]⟩ hV.na hV.nc hV.ns)).na ((Hd.mk hV.k hV.m hV.e ⟨#[120]⟩ hV.na hV.nc hV.ns)).ns.length ((Hd.mk hV.k hV.m hV.e ⟨#[120]⟩ hV.na hV.nc hV.ns)).nc)
    have hb9 := R9.base_leU
    have S10 := (S9.otr HO6 hbB (fun g hg => by cases hg; omega)).mono (B1 := W.heap.size) (M' := 60) (by omega) (by omega)
    have R10 := R9.uptoU (put6_below (B := W.heap.size) (nb := W.heap.size) (o := 0) (Below.refl _ (w4.setCell ⟨vb, 3, none⟩ (.string ⟨#[120]⟩))) (Nat.le_refl _) (.int .i64 ((Hd.mk hV.k hV.m hV.e ⟨#[120]⟩ hV.na hV.nc hV.ns)).k) (.int .i64 ((Hd.mk hV.k hV.m hV.e ⟨#[120]⟩ hV.na hV.nc hV.ns)).m) (.int .i64 ((Hd.mk hV.k hV.m hV.e ⟨#[120]⟩ hV.na hV.nc hV.ns)).e) (.string ((Hd.mk hV.k hV.m hV.e ⟨#[120]⟩ hV.na hV.nc hV.ns)).t) (.slice av (F).len c) (.slice ((Hd.mk hV.k hV.m hV.e ⟨#[120]⟩ hV.na hV.nc hV.ns)).na ((Hd.mk hV.k hV.m hV.e ⟨#[120]⟩ hV.na hV.nc hV.ns)).ns.length ((Hd.mk hV.k hV.m hV.e ⟨#[120]⟩ hV.na hV.nc hV.ns)).nc)) hlt (by omega)
    have O10 := O9.upto (put6_below (B := W.heap.size) (nb := W.heap.size) (o := 0) (Below.refl _ (w4.setCell ⟨vb, 3, none⟩ (.string ⟨#[120]⟩))) (Nat.le_refl _) (.int .i64 ((Hd.mk hV.k hV.m hV.e ⟨#[120]⟩ hV.na hV.nc hV.ns)).k) (.int .i64 ((Hd.mk hV.k hV.m hV.e ⟨#[120]⟩ hV.na hV.nc hV.ns)).m) (.int .i64 ((Hd.mk hV.k hV.m hV.e ⟨#[120]⟩ hV.na hV.nc hV.ns)).e) (.string ((Hd.mk hV.k hV.m hV.e ⟨#[120]⟩ hV.na hV.nc hV.ns)).t) (.slice av (F).len c) (.slice ((Hd.mk hV.k hV.m hV.e ⟨#[120]⟩ hV.na hV.nc hV.ns)).na ((Hd.mk hV.k hV.m hV.e ⟨#[120]⟩ hV.na hV.nc hV.ns)).ns.length ((Hd.mk hV.k hV.m hV.e ⟨#[120]⟩ hV.na hV.nc hV.ns)).nc))
    have HS10 : Hid (AnyS W.heap.size 60 (put6 (w4.setCell ⟨vb, 3, none⟩ (.string ⟨#[120]⟩)) W.heap.size 0 (.int .i64 ((Hd.mk hV.k hV.m hV.e ⟨#[120]⟩ hV.na hV.nc hV.ns)).k) (.int .i64 ((Hd.mk hV.k hV.m hV.e ⟨#[120]⟩ hV.na hV.nc hV.ns)).m) (.int .i64 ((Hd.mk hV.k hV.m hV.e ⟨#[120]⟩ hV.na hV.nc hV.ns)).e) (.string ((Hd.mk hV.k hV.m hV.e ⟨#[120]⟩ hV.na hV.nc hV.ns)).t) (.slice av (F).len c) (.slice ((Hd.mk hV.k hV.m hV.e ⟨#[120]⟩ hV.na hV.nc hV.ns)).na ((Hd.mk hV.k hV.m hV.e ⟨#[120]⟩ hV.na hV.nc hV.ns)).ns.length ((Hd.mk hV.k hV.m hV.e ⟨#[120]⟩ hV.na hV.nc hV.ns)).nc)) ((Hd.mk hV.k hV.m hV.e ⟨#[120]⟩ hV.na hV.nc hV.ns)) av c F ∧ Rd w0 B b a len cap _ (put6 (w4.setCell ⟨vb, 3, none⟩ (.string ⟨#[120]⟩)) W.heap.size 0 (.int .i64 ((Hd.mk hV.k hV.m hV.e ⟨#[120]⟩ hV.na hV.nc hV.ns)).k) (.int .i64 ((Hd.mk hV.k hV.m hV.e ⟨#[120]⟩ hV.na hV.nc hV.ns)).m) (.int .i64 ((Hd.mk hV.k hV.m hV.e ⟨#[120]⟩ hV.na hV.nc hV.ns)).e) (.string ((Hd.mk hV.k hV.m hV.e ⟨#[120]⟩ hV.na hV.nc hV.ns)).t) (.slice av (F).len c) (.slice ((Hd.mk hV.k hV.m hV.e ⟨#[120]⟩ hV.na hV.nc hV.ns)).na ((Hd.mk hV.k hV.m hV.e ⟨#[120]⟩ hV.na hV.nc hV.ns)).ns.length ((Hd.mk hV.k hV.m hV.e ⟨#[120]⟩ hV.na hV.nc hV.ns)).nc)) ∧ Otb b W (put6 (w4.setCell ⟨vb, 3, none⟩ (.string ⟨#[120]⟩)) W.heap.size 0 (.int .i64 ((Hd.mk hV.k hV.m hV.e ⟨#[120]⟩ hV.na hV.nc hV.ns)).k) (.int .i64 ((Hd.mk hV.k hV.m hV.e ⟨#[120]⟩ hV.na hV.nc hV.ns)).m) (.int .i64 ((Hd.mk hV.k hV.m hV.e ⟨#[120]⟩ hV.na hV.nc hV.ns)).e) (.string ((Hd.mk hV.k hV.m hV.e ⟨#[120]⟩ hV.na hV.nc hV.ns)).t) (.slice av (F).len c) (.slice ((Hd.mk hV.k hV.m hV.e ⟨#[120]⟩ hV.na hV.nc hV.ns)).na ((Hd.mk hV.k hV.m hV.e ⟨#[120]⟩ hV.na hV.nc hV.ns)).ns.length ((Hd.mk hV.k hV.m hV.e ⟨#[120]⟩ hV.na hV.nc hV.ns)).nc))) := ⟨S10, R10, O10⟩
    clear Z9 S9 R9 O9 HO6 S10 R10 O10
    go_wp2_with fail
    show bodyPost Try.prog Try.f22 _ Exit.ret _ (put6 (w4.setCell ⟨vb, 3, none⟩ (.string ⟨#[120]⟩)) W.heap.size 0 (.int .i64 ((Hd.mk hV.k hV.m hV.e ⟨#[120]⟩ hV.na hV.nc hV.ns)).k) (.int .i64 ((Hd.mk hV.k hV.m hV.e ⟨#[120]⟩ hV.na hV.nc hV.ns)).m) (.int .i64 ((Hd.mk hV.k hV.m hV.e ⟨#[120]⟩ hV.na hV.nc hV.ns)).e) (.string ((Hd.mk hV.k hV.m hV.e ⟨#[120]⟩ hV.na hV.nc hV.ns)).t) (.slice av (F).len c) (.slice ((Hd.mk hV.k hV.m hV.e ⟨#[120]⟩ hV.na hV.nc hV.ns)).na ((Hd.mk hV.k hV.m hV.e ⟨#[120]⟩ hV.na hV.nc hV.ns)).ns.length ((Hd.mk hV.k hV.m hV.e ⟨#[120]⟩ hV.na hV.nc hV.ns)).nc))
    generalize put6 (w4.setCell ⟨vb, 3, none⟩ (.string ⟨#[120]⟩)) W.heap.size 0 (.int .i64 ((Hd.mk hV.k hV.m hV.e ⟨#[120]⟩ hV.na hV.nc hV.ns)).k) (.int .i64 ((Hd.mk hV.k hV.m hV.e ⟨#[120]⟩ hV.na hV.nc hV.ns)).m) (.int .i64 ((Hd.mk hV.k hV.m hV.e ⟨#[120]⟩ hV.na hV.nc hV.ns)).e) (.string ((Hd.mk hV.k hV.m hV.e ⟨#[120]⟩ hV.na hV.nc hV.ns)).t) (.slice av (F).len c) (.slice ((Hd.mk hV.k hV.m hV.e ⟨#[120]⟩ hV.na hV.nc hV.ns)).na ((Hd.mk hV.k hV.m hV.e ⟨#[120]⟩ hV.na hV.nc hV.ns)).ns.length ((Hd.mk hV.k hV.m hV.e ⟨#[120]⟩ hV.na hV.nc hV.ns)).nc) = W6 at *
    have y0 := (HP6 0 _ rfl).1
    have y1 := (HP6 1 _ rfl).1
    have y2 := (HP6 2 _ rfl).1
    have y3 := (HP6 3 _ rfl).1
    have y4 := (HP6 4 _ rfl).1
    have y5 := (HP6 5 _ rfl).1
    obtain ⟨z1, z2, z3⟩ := HS10.out
    refine bodyPost_ret (v := valV ((Hd.mk hV.k hV.m hV.e ⟨#[120]⟩ hV.na hV.nc hV.ns)) av (F).len c) (by simp [results, Try.results22, go_sem, y0, y1, y2, y3, y4, y5]) rfl (by first | exact ⟨(Hd.mk hV.k hV.m hV.e ⟨#[120]⟩ hV.na hV.nc hV.ns), F, av, c, _, rfl, z1, by omega, z2, z3⟩ | exact ⟨(Hd.mk hV.k hV.m hV.e ⟨#[120]⟩ hV.na hV.nc hV.ns), F, av, c, rfl, z1, _, by omega, z2, z3⟩)
  · go_wp2_with fail
    have S5 := S4.any (by omega)
    go_loopw [4] (fun i wr => ∃ (n : Nat) (hh : Hd) (FF : Vo) (aa : Option Addr) (cc : Nat), i = .int .i64 n ∧ n ≤ 20 ∧ (Row wr vb (six hh aa FF.len cc) ∧ Row wr W.heap.size zero6 ∧ AnyS (W.heap.size + 1) (39 + n) wr hh aa cc FF ∧ (oneV hh aa cc FF).Blk (fun x => ¬ x = vb) ∧ Rd w0 B b a len cap (p2 + 1) wr ∧ Otb b W wr ∧ vb < wr.heap.size)) (fun i _ => 20 - (intOf i).toNat)
    case atStart => exact ⟨0, hV, F, av, c, rfl, by omega, V4, Z4, S5, HFn.out, R4, O4, hz4⟩
    case round =>
      clear V4 Z4 S4 S5 R4 O4 hz4
      obtain ⟨n, hh, FF, aa, cc, rfl, hn, V4, Z4, S4, hFf, R4, O4, hz4⟩ := hrel
      have HF5 : Hid ((oneV hh aa cc FF).Blk (fun x => ¬ x = vb)) := hFf
      clear hFf
      by_cases hlt20 : (n : Int) < 20
      · have hn20 : n < 20 := by omega
        obtain ⟨t0, f0⟩ := V4 0 _ rfl
        obtain ⟨t1, f1⟩ := V4 1 _ rfl
        obtain ⟨t2, f2⟩ := V4 2 _ rfl
        obtain ⟨t3, f3⟩ := V4 3 _ rfl
        obtain ⟨t4, f4⟩ := V4 4 _ rfl
        obtain ⟨t5, f5⟩ := V4 5 _ rfl
        have hbp : Below W.heap.size wr (put6 wr vb 0 (.int .i64 5) (.int .i64 0) (.int .i64 0) (.string ⟨#[]⟩) (.slice (some ⟨wr.heap.size, 0, none⟩) 1 1) (.slice none 0 0)) := put6_below (Below.refl _ _) (by have := HZ2.out; omega) _ _ _ _ _ _
        have hba : Below (put6 wr vb 0 (.int .i64 5) (.int .i64 0) (.int .i64 0) (.string ⟨#[]⟩) (.slice (some ⟨wr.heap.size, 0, none⟩) 1 1) (.slice none 0 0)).heap.size (put6 wr vb 0 (.int .i64 5) (.int .i64 0) (.int .i64 0) (.string ⟨#[]⟩) (.slice (some ⟨wr.heap.size, 0, none⟩) 1 1) (.slice none 0 0)) ((put6 wr vb 0 (.int .i64 5) (.int .i64 0) (.int .i64 0) (.string ⟨#[]⟩) (.slice (some ⟨wr.heap.size, 0, none⟩) 1 1) (.slice none 0 0)).alloc (.cells #[.int .i64 hh.k, .int .i64 hh.m, .int .i64 hh.e, .string hh.t, .slice aa FF.len cc, .slice hh.na hh.ns.length hh.nc] 28)) := (Below.refl _ _).alloc (Nat.le_refl _) _
        have hPo := Otr.put6 b (j := vb) (o := 0) wr (.int .i64 5) (.int .i64 0) (.int .i64 0) (.string ⟨#[]⟩) (.slice (some ⟨wr.heap.size, 0, none⟩) 1 1) (.slice none 0 0)
        have hsz6 : (put6 wr vb 0 (.int .i64 5) (.int .i64 0) (.int .i64 0) (.string ⟨#[]⟩) (.slice (some ⟨wr.heap.size, 0, none⟩) 1 1) (.slice none 0 0)).heap.size = wr.heap.size := put6_size
        have V6 : Row ((put6 wr vb 0 (.int .i64 5) (.int .i64 0) (.int .i64 0) (.string ⟨#[]⟩) (.slice (some ⟨wr.heap.size, 0, none⟩) 1 1) (.slice none 0 0)).alloc (.cells #[.int .i64 hh.k, .int .i64 hh.m, .int .i64 hh.e, .string hh.t, .slice aa FF.len cc, .slice hh.na hh.ns.length hh.nc] 28)) vb (six (hdK 5) (some ⟨wr.heap.size, 0, none⟩) 1 1) := (Row.put6 V4).below hba (by rw [hsz6]; exact hz4)
        have Z6 : Row ((put6 wr vb 0 (.int .i64 5) (.int .i64 0) (.int .i64 0) (.string ⟨#[]⟩) (.slice (some ⟨wr.heap.size, 0, none⟩) 1 1) (.slice none 0 0)).alloc (.cells #[.int .i64 hh.k, .int .i64 hh.m, .int .i64 hh.e, .string hh.t, .slice aa FF.len cc, .slice hh.na hh.ns.length hh.nc] 28)) W.heap.size zero6 := (hPo.row hne (fun e => by have := Option.some.inj e; have := HZ2.out; omega) Z4).below hba (by rw [hsz6]; have := HZ2.out; omega)
        have S6 := S4.otr2 hPo hbB (blk_ne HF5.out)
        have hcs : ((put6 wr vb 0 (.int .i64 5) (.int .i64 0) (.int .i64 0) (.string ⟨#[]⟩) (.slice (some ⟨wr.heap.size, 0, none⟩) 1 1) (.slice none 0 0)).alloc (.cells #[.int .i64 hh.k, .int .i64 hh.m, .int .i64 hh.e, .string hh.t, .slice aa FF.len cc, .slice hh.na hh.ns.length hh.nc] 28)).heap[wr.heap.size]? = some (.cells (six hh aa FF.len cc).toArray 28 (0, 0)) := by have e := heap_alloc_new (put6 wr vb 0 (.int .i64 5) (.int .i64 0) (.int .i64 0) (.string ⟨#[]⟩) (.slice (some ⟨wr.heap.size, 0, none⟩) 1 1) (.slice none 0 0)) (.cells #[.int .i64 hh.k, .int .i64 hh.m, .int .i64 hh.e, .string hh.t, .slice aa FF.len cc, .slice hh.na hh.ns.length hh.nc] 28); rw [hsz6] at e; exact e
        have S7 := S6.wrap hba (by have := HZ2.out; omega) _ hcs
        have F7 : (oneV (hdK 5) (some (⟨wr.heap.size, 0, none⟩ : Addr)) 1 (oneV hh aa cc FF)).Blk (fun x => ¬ x = vb) := ⟨.inl rfl, .inr ⟨_, 0, rfl, by omega⟩, HF5.out, trivial⟩
        have R6 := (R4.uptoU hbp hlt (by have := R4.base_leU; omega)).below hba
        have O6 := (O4.upto hbp).below hba
        have hz6 : vb < ((put6 wr vb 0 (.int .i64 5) (.int .i64 0) (.int .i64 0) (.string ⟨#[]⟩) (.slice (some ⟨wr.heap.size, 0, none⟩) 1 1) (.slice none 0 0)).alloc (.cells #[.int .i64 hh.k, .int .i64 hh.m, .int .i64 hh.e, .string hh.t, .slice aa FF.len cc, .slice hh.na hh.ns.length hh.nc] 28)).heap.size := Nat.lt_of_lt_of_le (by rw [hsz6]; exact hz4) hba.size
        have HN : Hid (Row ((put6 wr vb 0 (.int .i64 5) (.int .i64 0) (.int .i64 0) (.string ⟨#[]⟩) (.slice (some ⟨wr.heap.size, 0, none⟩) 1 1) (.slice none 0 0)).alloc (.cells #[.int .i64 hh.k, .int .i64 hh.m, .int .i64 hh.e, .string hh.t, .slice aa FF.len cc, .slice hh.na hh.ns.length hh.nc] 28)) vb (six (hdK 5) (some ⟨wr.heap.size, 0, none⟩) (oneV hh aa cc FF).len 1) ∧ Row ((put6 wr vb 0 (.int .i64 5) (.int .i64 0) (.int .i64 0) (.string ⟨#[]⟩) (.slice (some ⟨wr.heap.size, 0, none⟩) 1 1) (.slice none 0 0)).alloc (.cells #[.int .i64 hh.k, .int .i64 hh.m, .int .i64 hh.e, .string hh.t, .slice aa FF.len cc, .slice hh.na hh.ns.length hh.nc] 28)) W.heap.size zero6 ∧ AnyS (W.heap.size + 1) (39 + n + 1) ((put6 wr vb 0 (.int .i64 5) (.int .i64 0) (.int .i64 0) (.string ⟨#[]⟩) (.slice (some ⟨wr.heap.size, 0, none⟩) 1 1) (.slice none 0 0)).alloc (.cells #[.int .i64 hh.k, .int .i64 hh.m, .int .i64 hh.e, .string hh.t, .slice aa FF.len cc, .slice hh.na hh.ns.length hh.nc] 28)) (hdK 5) (some ⟨wr.heap.size, 0, none⟩) 1 (oneV hh aa cc FF) ∧ (oneV (hdK 5) (some (⟨wr.heap.size, 0, none⟩ : Addr)) 1 (oneV hh aa cc FF)).Blk (fun x => ¬ x = vb) ∧ Rd w0 B b a len cap (p2 + 1) ((put6 wr vb 0 (.int .i64 5) (.int .i64 0) (.int .i64 0) (.string ⟨#[]⟩) (.slice (some ⟨wr.heap.size, 0, none⟩) 1 1) (.slice none 0 0)).alloc (.cells #[.int .i64 hh.k, .int .i64 hh.m, .int .i64 hh.e, .string hh.t, .slice aa FF.len cc, .slice hh.na hh.ns.length hh.nc] 28)) ∧ Otb b W ((put6 wr vb 0 (.int .i64 5) (.int .i64 0) (.int .i64 0) (.string ⟨#[]⟩) (.slice (some ⟨wr.heap.size, 0, none⟩) 1 1) (.slice none 0 0)).alloc (.cells #[.int .i64 hh.k, .int .i64 hh.m, .int .i64 hh.e, .string hh.t, .slice aa FF.len cc, .slice hh.na hh.ns.length hh.nc] 28)) ∧ vb < ((put6 wr vb 0 (.int .i64 5) (.int .i64 0) (.int .i64 0) (.string ⟨#[]⟩) (.slice (some ⟨wr.heap.size, 0, none⟩) 1 1) (.slice none 0 0)).alloc (.cells #[.int .i64 hh.k, .int .i64 hh.m, .int .i64 hh.e, .string hh.t, .slice aa FF.len cc, .slice hh.na hh.ns.length hh.nc] 28)).heap.size) := ⟨V6, Z6, S7, F7, R6, O6, hz6⟩
        clear V4 Z4 S4 R4 O4 hbp hba hPo hsz6 V6 Z6 S6 hcs S7 F7 R6 O6 hz6
        go_wp2_with fail
        refine ⟨?_, ?_⟩
        · obtain ⟨n1, n2, n3, n4, n5, n6, n7⟩ := HN.out
          exact ⟨n + 1, hdK 5, oneV hh aa cc FF, some ⟨wr.heap.size, 0, none⟩, 1, rfl, by omega, n1, n2, n3, n4, n5, n6, n7⟩
        · simp [intOf]; omega
      · have hn20 : n = 20 := by omega
        obtain ⟨t0, f0⟩ := V4 0 _ rfl
        obtain ⟨t1, f1⟩ := V4 1 _ rfl
        obtain ⟨t2, f2⟩ := V4 2 _ rfl
        obtain ⟨t3, f3⟩ := V4 3 _ rfl
        obtain ⟨t4, f4⟩ := V4 4 _ rfl
        obtain ⟨t5, f5⟩ := V4 5 _ rfl
        have Z9 := Z4
        have R9 := R4
        have O9 := O4
        have S9 := S4.mono (Nat.le_refl _) (show 39 + n ≤ 59 by omega)
        clear V4 Z4 O4 S4 R4 hn hn20 HF5
        obtain ⟨r0, g0⟩ := Z9 0 _ rfl
        obtain ⟨r1, g1⟩ := Z9 1 _ rfl
        obtain ⟨r2, g2⟩ := Z9 2 _ rfl
        obtain ⟨r3, g3⟩ := Z9 3 _ rfl
        obtain ⟨r4, g4⟩ := Z9 4 _ rfl
        obtain ⟨r5, g5⟩ := Z9 5 _ rfl
        have HP6 := Row.put6 (v0 := .int .i64 (hh).k) (v1 := .int .i64 (hh).m) (v2 := .int .i64 (hh).e) (v3 := .string (hh).t) (v4 := .slice aa (FF).len cc) (v5 := .slice (hh).na (hh).ns.length (hh).nc) Z9
        have HO6 := Otr.put6 b (j := W.heap.size) (o := 0) wr (.int .i64 (hh).k) (.int .i64 (hh).m) (.int .i64 (hh).e) (.string (hh).t) (.slice aa (FF).len cc) (.slice (hh).na (hh).ns.length (hh).nc)
        have hb9 := R9.base_leU
        have S10 := (S9.otr HO6 hbB (fun g hg => by cases hg; omega)).mono (B1 := W.heap.size) (M' := 60) (by omega) (by omega)
        have R10 := R9.uptoU (put6_below (B := W.heap.size) (nb := W.heap.size) (o := 0) (Below.refl _ wr) (Nat.le_refl _) (.int .i64 (hh).k) (.int .i64 (hh).m) (.int .i64 (hh).e) (.string (hh).t) (.slice aa (FF).len cc) (.slice (hh).na (hh).ns.length (hh).nc)) hlt (by omega)
        have O10 := O9.upto (put6_below (B := W.heap.size) (nb := W.heap.size) (o := 0) (Below.refl _ wr) (Nat.le_refl _) (.int .i64 (hh).k) (.int .i64 (hh).m) (.int .i64 (hh).e) (.string (hh).t) (.slice aa (FF).len cc) (.slice (hh).na (hh).ns.length (hh).nc))
        have HS10 : Hid (AnyS W.heap.size 60 (put6 wr W.heap.size 0 (.int .i64 (hh).k) (.int .i64 (hh).m) (.int .i64 (hh).e) (.string (hh).t) (.slice aa (FF).len cc) (.slice (hh).na (hh).ns.length (hh).nc)) (hh) aa cc FF ∧ Rd w0 B b a len cap _ (put6 wr W.heap.size 0 (.int .i64 (hh).k) (.int .i64 (hh).m) (.int .i64 (hh).e) (.string (hh).t) (.slice aa (FF).len cc) (.slice (hh).na (hh).ns.length (hh).nc)) ∧ Otb b W (put6 wr W.heap.size 0 (.int .i64 (hh).k) (.int .i64 (hh).m) (.int .i64 (hh).e) (.string (hh).t) (.slice aa (FF).len cc) (.slice (hh).na (hh).ns.length (hh).nc))) := ⟨S10, R10, O10⟩
        clear Z9 S9 R9 O9 HO6 S10 R10 O10
        go_wp2_with fail
        show bodyPost Try.prog Try.f22 _ Exit.ret _ (put6 wr W.heap.size 0 (.int .i64 (hh).k) (.int .i64 (hh).m) (.int .i64 (hh).e) (.string (hh).t) (.slice aa (FF).len cc) (.slice (hh).na (hh).ns.length (hh).nc))
        generalize put6 wr W.heap.size 0 (.int .i64 (hh).k) (.int .i64 (hh).m) (.int .i64 (hh).e) (.string (hh).t) (.slice aa (FF).len cc) (.slice (hh).na (hh).ns.length (hh).nc) = W6 at *
        have y0 := (HP6 0 _ rfl).1
        have y1 := (HP6 1 _ rfl).1
        have y2 := (HP6 2 _ rfl).1
        have y3 := (HP6 3 _ rfl).1
        have y4 := (HP6 4 _ rfl).1
        have y5 := (HP6 5 _ rfl).1
        obtain ⟨z1, z2, z3⟩ := HS10.out
        refine bodyPost_ret (v := valV (hh) aa (FF).len cc) (by simp [results, Try.results22, go_sem, y0, y1, y2, y3, y4, y5]) rfl (by first | exact ⟨hh, FF, aa, cc, _, rfl, z1, by omega, z2, z3⟩ | exact ⟨hh, FF, aa, cc, rfl, z1, _, by omega, z2, z3⟩)
  · have q0 : (v == 0) = false := by simp; omega
    have q1 : (v == 1) = false := by simp; omega
    have q2 : (v == 2) = false := by simp; omega
    have q3 : (v == 3) = false := by simp; omega
    have q4 : (v == 4) = false := by simp; omega
    obtain ⟨t0, f0⟩ := V4 0 _ rfl
    obtain ⟨t1, f1⟩ := V4 1 _ rfl
    obtain ⟨t2, f2⟩ := V4 2 _ rfl
    obtain ⟨t3, f3⟩ := V4 3 _ rfl
    obtain ⟨t4, f4⟩ := V4 4 _ rfl
    obtain ⟨t5, f5⟩ := V4 5 _ rfl
    have Z9 := Z4
    have R9 := R4
    have O9 := O4
    have S9 := S4.any (by omega)
    clear V4 Z4 O4 S4 R4 v0 v1 hv
    obtain ⟨r0, g0⟩ := Z9 0 _ rfl
    obtain ⟨r1, g1⟩ := Z9 1 _ rfl
    obtain ⟨r2, g2⟩ := Z9 2 _ rfl
    obtain ⟨r3, g3⟩ := Z9 3 _ rfl
    obtain ⟨r4, g4⟩ := Z9 4 _ rfl
    obtain ⟨r5, g5⟩ := Z9 5 _ rfl
    have HP6 := Row.put6 (v0 := .int .i64 (hV).k) (v1 := .int .i64 (hV).m) (v2 := .int .i64 (hV).e) (v3 := .string (hV).t) (v4 := .slice av (F).len c) (v5 := .slice (hV).na (hV).ns.length (hV).nc) Z9
    have HO6 := Otr.put6 b (j := W.heap.size) (o := 0) w4 (.int .i64 (hV).k) (.int .i64 (hV).m) (.int .i64 (hV).e) (.string (hV).t) (.slice av (F).len c) (.slice (hV).na (hV).ns.length (hV).nc)
    have hb9 := R9.base_leU
    have S10 := (S9.otr HO6 hbB (fun g hg => by cases hg; omega)).mono (B1 := W.heap.size) (M' := 60) (by omega) (by omega)
    have R10 := R9.uptoU (put6_below (B := W.heap.size) (nb := W.heap.size) (o := 0) (Below.refl _ w4) (Nat.le_refl _) (.int .i64 (hV).k) (.int .i64 (hV).m) (.int .i64 (hV).e) (.string (hV).t) (.slice av (F).len c) (.slice (hV).na (hV).ns.length (hV).nc)) hlt (by omega)
    have O10 := O9.upto (put6_below (B := W.heap.size) (nb := W.heap.size) (o := 0) (Below.refl _ w4) (Nat.le_refl _) (.int .i64 (hV).k) (.int .i64 (hV).m) (.int .i64 (hV).e) (.string (hV).t) (.slice av (F).len c) (.slice (hV).na (hV).ns.length (hV).nc))
    have HS10 : Hid (AnyS W.heap.size 60 (put6 w4 W.heap.size 0 (.int .i64 (hV).k) (.int .i64 (hV).m) (.int .i64 (hV).e) (.string (hV).t) (.slice av (F).len c) (.slice (hV).na (hV).ns.length (hV).nc)) (hV) av c F ∧ Rd w0 B b a len cap _ (put6 w4 W.heap.size 0 (.int .i64 (hV).k) (.int .i64 (hV).m) (.int .i64 (hV).e) (.string (hV).t) (.slice av (F).len c) (.slice (hV).na (hV).ns.length (hV).nc)) ∧ Otb b W (put6 w4 W.heap.size 0 (.int .i64 (hV).k) (.int .i64 (hV).m) (.int .i64 (hV).e) (.string (hV).t) (.slice av (F).len c) (.slice (hV).na (hV).ns.length (hV).nc))) := ⟨S10, R10, O10⟩
    clear Z9 S9 R9 O9 HO6 S10 R10 O10
    go_wp2_with fail
    show bodyPost Try.prog Try.f22 _ Exit.ret _ (put6 w4 W.heap.size 0 (.int .i64 (hV).k) (.int .i64 (hV).m) (.int .i64 (hV).e) (.string (hV).t) (.slice av (F).len c) (.slice (hV).na (hV).ns.length (hV).nc))
    generalize put6 w4 W.heap.size 0 (.int .i64 (hV).k) (.int .i64 (hV).m) (.int .i64 (hV).e) (.string (hV).t) (.slice av (F).len c) (.slice (hV).na (hV).ns.length (hV).nc) = W6 at *
    have y0 := (HP6 0 _ rfl).1
    have y1 := (HP6 1 _ rfl).1
    have y2 := (HP6 2 _ rfl).1
    have y3 := (HP6 3 _ rfl).1
    have y4 := (HP6 4 _ rfl).1
    have y5 := (HP6 5 _ rfl).1
    obtain ⟨z1, z2, z3⟩ := HS10.out
    refine bodyPost_ret (v := valV (hV) av (F).len c) (by simp [results, Try.results22, go_sem, y0, y1, y2, y3, y4, y5]) rfl (by first | exact ⟨hV, F, av, c, _, rfl, z1, by omega, z2, z3⟩ | exact ⟨hV, F, av, c, rfl, z1, _, by omega, z2, z3⟩)
end Go.Proofs.Ytalncebnahlmdaa
/- Drawn values: DrawValueOk; what is asked of a value that is ok; the law's region that holds both sides' answers against each other. -/
namespace Go.Proofs.Ytalncebnahlmdaa
open Go.RowKit
attribute [local go_sem] cell_alloc_is frozen_alloc_is
theorem take_all : ∀ {F : Vo} {k : Nat}, F.len = k → F.take k = F := by
  intro F
  induction F with
  | nil => intro k h; subst h; rfl
  | cons h a c kids next _ ih => intro k hk; subst hk; show Vo.cons h a c kids (next.take next.len) = _; rw [ih rfl]
end Go.Proofs.Ytalncebnahlmdaa
/- A copy of a value, by the specification: l13Copy. -/
namespace Go.Proofs.Ytalncebnahlmdaa
open Go.RowKit
attribute [local go_sem] cell_alloc_is frozen_alloc_is
theorem gr_setCell {j o : Nat} (w : World) (u : Value) : w.grownBy (w.setCell ⟨j, o, none⟩ u) (some j) := by
  refine ⟨?_, ?_, ?_, by simp [World.setCell], fun k _ hk => heap_setCell_other _ _ _ _ (fun e => hk (by rw [e]))⟩ <;> rfl
theorem gr_put6 {j o : Nat} (w : World) (v0 v1 v2 v3 v4 v5 : Value) : w.grownBy (put6 w j o v0 v1 v2 v3 v4 v5) (some j) :=
  gr_trans (gr_trans (gr_trans (gr_trans (gr_trans (gr_setCell w v0) (gr_setCell _ v1)) (gr_setCell _ v2)) (gr_setCell _ v3)) (gr_setCell _ v4)) (gr_setCell _ v5)
theorem Otr.of_grown {b : Nat} {r : Option Nat} {w w' : World} (h : w.grownBy w' r) : Otr b r w w' := ⟨h.size, fun x h1 _ h3 => h.block x h1 h3⟩
theorem own_grown {w w' : World} {r : Option Nat} {base : Nat} {e : TypeId} {size : Nat} {v : Value} {n : Nat} {xs : List Value} (h : w.ownsRow base e size v n xs) (hg : w.grownBy w' r) (hne : ∀ g, v.ownBlock = some g → some g ≠ r) : w'.ownsRow base e size v n xs := by
  obtain ⟨q1, q2⟩ := h
  refine ⟨q1, ?_⟩
  rcases q2 with q2 | ⟨g, cap, cur, rfl, e2, e3, e4⟩
  · exact .inl q2
  · exact .inr ⟨g, cap, cur, rfl, e2, by rw [hg.block g (Array.getElem?_eq_some_iff.1 e3).1 (hne g rfl)]; exact e3, e4⟩
theorem OwnS.more {B0 xb o : Nat} {w ws : World} {h h1 : Hd} {a a' ag : Option Addr} {c c' cg : Nat} {F G : Vo} {u : Value} (hv : OwnS B0 w h a c F) (hxw : xb < w.heap.size) (hB0 : B0 ≤ w.heap.size)
    (hxF : F.Blk (fun x => ¬ x = xb)) (hxa : blkOf a ≠ some xb) (hxn : blkOf h.na ≠ some xb) (hO : w.grownBy ws (blkOf a)) (hg : OwnS w.heap.size ws h1 ag cg G)
    (hown : ws.ownsRow B0 28 6 (.slice a' (F.len + 1) c') (F.len + 1) (F.app (oneV h1 ag cg G)).cells)
    (hob : blkOf a' = blkOf a ∨ ∃ g, blkOf a' = some g ∧ w.heap.size ≤ g ∧ (oneV h1 ag cg G).Blk (fun x => x < g)) :
    OwnS B0 (ws.setCell ⟨xb, o, none⟩ u) h a' c' (F.app (oneV h1 ag cg G)) ∧ (F.app (oneV h1 ag cg G)).Blk (fun x => ¬ x = xb) ∧ blkOf a' ≠ some xb := by
  obtain ⟨⟨ht, hs⟩, h6, h1', hk, hB⟩ := hv
  have hS := gr_setCell (j := xb) (o := o) ws u
  have hg2 := hg.grown hS (fun g hg => by cases hg; omega)
  have el : (F.app (oneV h1 ag cg G)).len = F.len + 1 := Vo.app_len _ _
  have hz := hO.size
  have hzs := hS.size
  have hxa' : blkOf a' ≠ some xb := by
    rcases hob with hob | ⟨g, hob, hge, _⟩
    · rw [hob]; exact hxa
    · rw [hob]; intro e; cases e; omega
  have ha6 : ∀ x, blkOf a = some x → x < w.heap.size := fun x hx => (h6.lt x (by rw [ownBlock_blkOf]; exact hx)).2
  have hn6 : ∀ x, blkOf h.na = some x → x < w.heap.size := fun x hx => (h1'.lt x (by rw [ownBlock_blkOf]; exact hx)).2
  have hOt : Otr w.heap.size (blkOf a) w ws := Otr.of_grown hO
  have hSt : Otr w.heap.size (some xb) ws (ws.setCell ⟨xb, o, none⟩ u) := Otr.of_grown hS
  have hb4 : F.Blk (fun x => ¬ x = w.heap.size ∧ some x ≠ blkOf a) := hB.mono fun x hx => ⟨by omega, hx.2.1⟩
  have hb3 : F.Blk (fun x => ¬ x = w.heap.size ∧ some x ≠ some xb) := (hB.and hxF).mono fun x hx => ⟨by have := hx.1.1.2; omega, fun e => hx.2 (Option.some.inj e)⟩
  have gblk := hg.blk
  have gone := hg2.one
  have hapart : ∀ g, blkOf h.na = some g → some g ≠ blkOf a := fun g hg e => own_apart h6 h1' (by decide) (g := g) (by rw [ownBlock_blkOf]; exact e.symm) (by rw [ownBlock_blkOf]; exact hg)
  refine ⟨⟨⟨ht, hs⟩, ?_, ?_, ⟨?_, ?_, ?_⟩, ?_⟩, ?_, hxa'⟩
  · rw [el]
    exact own_set hown (fun g hg e => hxa' (by rw [← ownBlock_blkOf]; rw [hg, e])) u
  · exact own_grown (own_grown h1' hO (fun g hg => hapart g (by rw [← ownBlock_blkOf]; exact hg))) hS (fun g hg e => hxn (by rw [← ownBlock_blkOf]; rw [hg, e]))
  · exact Vo.app_kin (hSt.kin hb3 (hOt.kin hb4 hk.1)) gone.1
  · exact Vo.app_cl (hSt.cl hb3 (hOt.cl hb4 hk.2.1)) gone.2
  · exact Vo.sep_app (P := fun x => x < w.heap.size) hk.2.2 hg.sep (hB.mono fun x hx => hx.1.2) (gblk.mono fun x hx => by omega)
  · have p1 : F.Blk (fun x => (B0 ≤ x ∧ x < (ws.setCell ⟨xb, o, none⟩ u).heap.size) ∧ some x ≠ blkOf a' ∧ some x ≠ blkOf h.na) := by
      refine hB.mono fun x hx => ⟨⟨hx.1.1, by omega⟩, fun e => ?_, hx.2.2⟩
      rcases hob with hob | ⟨g, hob, hge, _⟩
      · exact hx.2.1 (e.trans hob)
      · rw [hob] at e; cases e; omega
    have hna : ∀ x, w.heap.size ≤ x → some x ≠ blkOf h.na := fun x hx e => by have := hn6 x e.symm; omega
    refine Vo.app_blk p1 ?_
    rcases hob with hob | ⟨g, hob, hge, hlt⟩
    · refine gblk.mono fun x hx => ⟨⟨by omega, by omega⟩, fun e => ?_, hna x hx.1⟩
      rw [hob] at e
      have := ha6 x e.symm
      omega
    · refine (gblk.and hlt).mono fun x hx => ⟨⟨by omega, by omega⟩, fun e => ?_, hna x hx.1.1⟩
      rw [hob] at e
      cases e
      exact Nat.lt_irrefl _ hx.2
  · exact Vo.app_blk hxF (gblk.mono fun x hx => by omega)
theorem Vo.take_next : ∀ {F : Vo} {k : Nat}, k < F.len → F.take (k + 1) = (F.take k).app (oneV (F.hdAt k) (F.addrAt k) (F.capAt k) (F.kidsAt k)) := by
  intro F
  induction F with
  | nil => intro k h; exact absurd h (Nat.not_lt_zero _)
  | cons h a c kids next _ ih =>
    intro k hk
    cases k with
    | zero => show Vo.cons h a c kids (next.take 0) = Vo.cons h a c kids .nil; cases next <;> rfl
    | succ k => show Vo.cons h a c kids (next.take (k + 1)) = Vo.cons h a c kids ((next.take k).app _); rw [ih (show k < next.len from Nat.lt_of_succ_lt_succ hk)]; rfl
set_option maxRecDepth 100000 in
set_option maxHeartbeats 2000000 in
theorem l13Copy_step (N : Nat) (H : CopyC N) : CopyC (N + 1) := by
  intro h a c F w hF hF2 hfw hnl hin hl hc hh
  obtain ⟨W0, hW0⟩ : ∃ W0, W0 = (w.alloc (.cells #[.int .i64 h.k, .int .i64 h.m, .int .i64 h.e, .string h.t, .slice a F.len c, .slice h.na h.ns.length h.nc] 28)).alloc (.cells #[.int .i64 0, .int .i64 0, .int .i64 0, .string ⟨#[]⟩, .slice none 0 0, .slice none 0 0] 28) := ⟨_, rfl⟩
  have hB0 : Below w.heap.size w W0 := by subst hW0; exact (by (repeat' (first | assumption | exact Below.refl _ _ | refine Below.alloc ?_ ?_ _ | refine Below.setCell ?_ ?_ _ | refine Below.drew ?_ | refine below_drewN ?_ _)) <;> (first | omega | (simp <;> omega)))
  have HSZ : Hid (W0.heap.size = w.heap.size + 1 + 1) := by unfold Hid; subst hW0; simp
  have A0 : Row W0 w.heap.size (six h a F.len c) := by
    subst hW0
    exact (Row.new w _ _).below ((Below.refl _ _).alloc (Nat.le_refl _) _) (by simp)
  have R0 : Row W0 (w.heap.size + 1) zero6 := by
    subst hW0
    have := Row.new (w.alloc (.cells #[.int .i64 h.k, .int .i64 h.m, .int .i64 h.e, .string h.t, .slice a F.len c, .slice h.na h.ns.length h.nc] 28)) zero6 28
    rw [World.size_alloc] at this
    exact this
  have HC0 : Hid (Cells6 W0 w.heap.size 0 h (.slice a F.len c)) := ⟨(A0 0 _ rfl).1, (A0 1 _ rfl).1, (A0 2 _ rfl).1, (A0 3 _ rfl).1, (A0 4 _ rfl).1, (A0 5 _ rfl).1⟩
  have HL0 : Hid (Lies W0 h.na (texts h.ns)) := hh.1.lies.1.grow hB0
  have hlen := F.len_le
  go_enter Try.func30, Try.ntmps30
  go_wp2_with fail
  rw [← hW0]
  clear hW0
  refine uc1 HC0.out HL0.out hnl (fun _ d _ _ _ h => by cases d <;> exact h) ?_
  intro w1 xb na nc v5 v6 v7 v8 v9 v10 v11 v12 v13 v14 v15 hb1 hxb hX hown hne
  have hB1 := hB0.trans (hb1.mono hB0.size)
  have A1 := A0.below hb1 A0.lt
  have R1 := R0.below hb1 R0.lt
  have hX1 : Row w1 xb (six (Hd.mk h.k h.m h.e h.t na nc h.ns) none Vo.nil.len 0) := hX
  have S1 : OwnS W0.heap.size w1 (Hd.mk h.k h.m h.e h.t na nc h.ns) none 0 .nil := ⟨⟨hh.2.2, hh.1.lies.2⟩, World.ownsRow_nil _ _ _ _, hown, ⟨trivial, trivial, trivial⟩, trivial⟩
  clear hB0 A0 R0 hX hown HC0 HL0 hb1
  go_wp2_with fail
  have hxl := hX1.lt
  go_loopw [4] (fun i wr => ∃ (k : Nat) (FX : Vo) (ax : Option Addr) (cx : Nat), i = .int .i64 k ∧ k ≤ F.len ∧ (Below w.heap.size w wr ∧ Row wr w.heap.size (six h a F.len c) ∧ Row wr (w.heap.size + 1) zero6 ∧ Row wr xb (six (Hd.mk h.k h.m h.e h.t na nc h.ns) ax FX.len cx) ∧ OwnS W0.heap.size wr (Hd.mk h.k h.m h.e h.t na nc h.ns) ax cx FX ∧ FX.Blk (fun x => ¬ x = xb) ∧ blkOf ax ≠ some xb ∧ FX.alike (F.take k))) (fun i _ => F.len - (intOf i).toNat)
  case atStart => exact ⟨0, .nil, none, 0, rfl, Nat.zero_le _, hB1, A1, R1, hX1, S1, trivial, (fun e => by cases e), by cases F <;> trivial⟩
  case round =>
    clear hB1 A1 R1 hX1 S1 hxl
    obtain ⟨k, FX, ax, cx, rfl, hk, hB, A, R, X, S, hfx, hax, hal⟩ := hrel
    by_cases hk2 : k < F.len
    · have hlt : (k : Int) < (F.len : Int) := by omega
      obtain ⟨b, o, rfl, hFr⟩ := Vo.from_of_len hin hk2
      obtain ⟨hit0, j1, j2, j3⟩ := Vo.from_at hFr hk2
      have hbl := hit0.lt
      obtain ⟨hit, k1, k2, k3⟩ := Vo.from_at (Vo.from_grow hB F b o hFr) hk2
      have hks := Vo.size_at hk2
      obtain ⟨f1, f2⟩ := Vo.few_at hk2 hfw
      have hxl := X.lt
      have hav := (A 4 _ rfl).1
      obtain ⟨x4, x4f⟩ := X 4 _ rfl
      have hfl : FX.len = k := by
        have e1 := Vo.alike_len hal
        have e2 := congrArg Vo.len (Vo.take_drop F k)
        rw [Vo.app_len] at e2
        have e3 : (F.take k).cells.length = k * 6 := by rw [Vo.take_cells, List.length_take, Vo.cells_length]; omega
        rw [Vo.cells_length] at e3
        omega
      have hz := HSZ.out
      have hBs := hB.size
      have hge : ∀ x, blkOf ax = some x → W0.heap.size ≤ x := fun x hx => (S.2.1.lt x (by rw [ownBlock_blkOf]; exact hx)).1
      have HST : Hid (Below w.heap.size w wr ∧ Row wr w.heap.size (six h (some ⟨b, o, none⟩) F.len c) ∧ Row wr (w.heap.size + 1) zero6 ∧ Row wr xb (six (Hd.mk h.k h.m h.e h.t na nc h.ns) ax FX.len cx) ∧ OwnS W0.heap.size wr (Hd.mk h.k h.m h.e h.t na nc h.ns) ax cx FX ∧ FX.Blk (fun x => ¬ x = xb) ∧ blkOf ax ≠ some xb ∧ FX.alike (F.take k)) := ⟨hB, A, R, X, S, hfx, hax, hal⟩
      have HFL : Hid (FX.len = k ∧ FX.len ≤ 1100000) := ⟨hfl, by omega⟩
      have HGE : Hid (∀ x, blkOf ax = some x → W0.heap.size ≤ x) := hge
      have HTK : Hid (F.take (k + 1) = (F.take k).app (oneV (F.hdAt k) (F.addrAt k) (F.capAt k) (F.kidsAt k))) := Vo.take_next hk2
      have HU : Hid ((F.kidsAt k).size < N ∧ (F.kidsAt k).size ≤ 1100000) := ⟨by omega, by omega⟩
      have hBle : W0.heap.size ≤ wr.heap.size := by omega
      clear hfl hge hz hBs hB A R X S hfx hax hal hit0 j1 j2 j3 hFr hks hlen
      go_wp2_with fail
      refine uc5 (W := wr) (B0 := W0.heap.size) (m := FX.len) (FX := FX) (FK := F.kidsAt k) (hk := F.hdAt k) (io := o) (ib := b) H HU.out.1 HU.out.2 f2 f1 hav hk2 hit k1 k2 k3 (by have := HSZ.out; omega) (by have := HSZ.out; omega) x4 x4f HST.out.2.2.2.2.1.2.1 HST.out.2.2.2.2.2.2.1 (fun e => by have := HGE.out _ e; have := HSZ.out; omega) (fun e => by have := HGE.out _ e; have := HSZ.out; omega) hBle HFL.out.2 (fun _ d _ _ _ h => by cases d <;> exact h) ?_
      intro ws v' h1 ag cg G v23 v24 v25 v26 v27 v28 v29 v30 v31 v33 hgr hsm hga hG hownN hobN
      obtain ⟨g, c', rfl, _, _⟩ := hownN.form (by omega)
      obtain ⟨hB, A, R, X, S, hfx, hax, hal⟩ := HST.out
      have hob2 : blkOf (some (⟨g, 0, none⟩ : Addr)) = blkOf ax ∨ ∃ g', blkOf (some (⟨g, 0, none⟩ : Addr)) = some g' ∧ wr.heap.size ≤ g' ∧ (oneV h1 ag cg G).Blk (fun x => x < g') := hobN
      obtain ⟨S2, hfx2, hax2⟩ := OwnS.more (xb := xb) (o := 4) (u := .slice (some ⟨g, 0, none⟩) (FX.len + 1) c') S X.lt hBle hfx hax hne hgr hG hownN hob2
      have A2 := (row_grown A hgr (fun e => by have := HGE.out _ e; have := HSZ.out; omega)).setOther (j := xb) (by have := HSZ.out; omega) 4 (.slice (some ⟨g, 0, none⟩) (FX.len + 1) c')
      have R2 := (row_grown R hgr (fun e => by have := HGE.out _ e; have := HSZ.out; omega)).setOther (j := xb) (by have := HSZ.out; omega) 4 (.slice (some ⟨g, 0, none⟩) (FX.len + 1) c')
      have X2 := (row_grown X hgr hax).set (i := 4) (by show 4 < 6; omega) (.slice (some ⟨g, 0, none⟩) (FX.len + 1) c')
      have hB2 : Below w.heap.size w (ws.setCell ⟨xb, 4, none⟩ (.slice (some ⟨g, 0, none⟩) (FX.len + 1) c')) := (hB.grown hgr hB.size (fun x hx => by have := HGE.out _ hx; have := HSZ.out; omega)).setCell (p := ⟨xb, 4, none⟩) (by show _ ≤ xb; have := HSZ.out; omega) _
      have hal2 : (FX.app (oneV h1 ag cg G)).alike (F.take (k + 1)) := by rw [HTK.out]; exact Vo.app_alike hal ⟨hsm, hga, trivial⟩
      have el : (FX.app (oneV h1 ag cg G)).len = FX.len + 1 := Vo.app_len _ _
      generalize ws.setCell ⟨xb, 4, none⟩ (.slice (some ⟨g, 0, none⟩) (FX.len + 1) c') = wn at *
      have HN : Hid (Below w.heap.size w wn ∧ Row wn w.heap.size (six h (some ⟨b, o, none⟩) F.len c) ∧ Row wn (w.heap.size + 1) zero6 ∧ Row wn xb (six (Hd.mk h.k h.m h.e h.t na nc h.ns) (some ⟨g, 0, none⟩) (FX.app (oneV h1 ag cg G)).len c') ∧ OwnS W0.heap.size wn (Hd.mk h.k h.m h.e h.t na nc h.ns) (some ⟨g, 0, none⟩) c' (FX.app (oneV h1 ag cg G)) ∧ (FX.app (oneV h1 ag cg G)).Blk (fun x => ¬ x = xb) ∧ blkOf (some (⟨g, 0, none⟩ : Addr)) ≠ some xb ∧ (FX.app (oneV h1 ag cg G)).alike (F.take (k + 1))) := ⟨hB2, A2, R2, by rw [el]; exact X2, S2, hfx2, hax2, hal2⟩
      have hl3 : F.len ≤ 1100000 := Nat.le_trans F.len_le hF2
      clear hB A R X S hfx hax hal hob2 S2 hfx2 hax2 A2 R2 X2 hB2 hal2 el hgr hsm hga hG hownN hobN hit k1 k2 k3 hav x4 x4f hxl
      go_wp2_with fail
      refine ⟨?_, ?_⟩
      · exact ⟨k + 1, FX.app (oneV h1 ag cg G), some ⟨g, 0, none⟩, c', by go_num, by omega, HN.out⟩
      · simp [intOf]; omega
    · have hke : F.len = k := by omega
      have hlt : ¬ (k : Int) < (F.len : Int) := by omega
      have hav := (A 4 _ rfl).1
      obtain ⟨r0, g0⟩ := R 0 _ rfl
      obtain ⟨r1, g1⟩ := R 1 _ rfl
      obtain ⟨r2, g2⟩ := R 2 _ rfl
      obtain ⟨r3, g3⟩ := R 3 _ rfl
      obtain ⟨r4, g4⟩ := R 4 _ rfl
      obtain ⟨r5, g5⟩ := R 5 _ rfl
      have x0 := (X 0 _ rfl).1
      have x1 := (X 1 _ rfl).1
      have x2 := (X 2 _ rfl).1
      have x3 := (X 3 _ rfl).1
      have x4 := (X 4 _ rfl).1
      have x5 := (X 5 _ rfl).1
      have HP6 := Row.put6 (v0 := .int .i64 h.k) (v1 := .int .i64 h.m) (v2 := .int .i64 h.e) (v3 := .string h.t) (v4 := .slice ax FX.len cx) (v5 := .slice na h.ns.length nc) R
      have hgp := gr_put6 (j := w.heap.size + 1) (o := 0) wr (.int .i64 h.k) (.int .i64 h.m) (.int .i64 h.e) (.string h.t) (.slice ax FX.len cx) (.slice na h.ns.length nc)
      have S2 := (S.grown hgp (fun g hg => by cases hg; have := HSZ.out; omega)).mono (B1 := w.heap.size) (by have := HSZ.out; omega)
      have hB2 : Below w.heap.size w (put6 wr (w.heap.size + 1) 0 (.int .i64 h.k) (.int .i64 h.m) (.int .i64 h.e) (.string h.t) (.slice ax FX.len cx) (.slice na h.ns.length nc)) := put6_below hB (by omega) _ _ _ _ _ _
      have hal2 : FX.alike F := by rw [take_all hke] at hal; exact hal
      have HF : Hid (OwnS w.heap.size (put6 wr (w.heap.size + 1) 0 (.int .i64 h.k) (.int .i64 h.m) (.int .i64 h.e) (.string h.t) (.slice ax FX.len cx) (.slice na h.ns.length nc)) (Hd.mk h.k h.m h.e h.t na nc h.ns) ax cx FX ∧ Below w.heap.size w (put6 wr (w.heap.size + 1) 0 (.int .i64 h.k) (.int .i64 h.m) (.int .i64 h.e) (.string h.t) (.slice ax FX.len cx) (.slice na h.ns.length nc)) ∧ FX.alike F) := ⟨S2, hB2, hal2⟩
      have HKE : Hid (F.len = k) := hke
      clear hB A R X S hfx hax hal hgp S2 hB2 hal2 hke hk hk2
      go_wp2_with fail
      show bodyPost Try.prog Try.f30 _ Exit.ret _ (put6 wr (w.heap.size + 1) 0 (.int .i64 h.k) (.int .i64 h.m) (.int .i64 h.e) (.string h.t) (.slice ax FX.len cx) (.slice na h.ns.length nc))
      generalize put6 wr (w.heap.size + 1) 0 (.int .i64 h.k) (.int .i64 h.m) (.int .i64 h.e) (.string h.t) (.slice ax FX.len cx) (.slice na h.ns.length nc) = W6 at *
      have y0 := (HP6 0 _ rfl).1
      have y1 := (HP6 1 _ rfl).1
      have y2 := (HP6 2 _ rfl).1
      have y3 := (HP6 3 _ rfl).1
      have y4 := (HP6 4 _ rfl).1
      have y5 := (HP6 5 _ rfl).1
      obtain ⟨z1, z2, z3⟩ := HF.out
      refine bodyPost_ret (v := valV (Hd.mk h.k h.m h.e h.t na nc h.ns) ax FX.len cx) (by simp [results, Try.results30, go_sem, y0, y1, y2, y3, y4, y5]) rfl ?_
      exact ⟨⟨(Hd.mk h.k h.m h.e h.t na nc h.ns), ax, cx, FX, rfl, ⟨⟨rfl, rfl, rfl, rfl⟩, rfl⟩, z3, z1⟩, z2⟩
theorem l13Copy_all (N : Nat) : CopyC N := by
  induction N with
  | zero => intro h a c F w hF; omega
  | succ N ih => exact l13Copy_step N ih
end Go.Proofs.Ytalncebnahlmdaa
/- Drawn values: a copy is a drawn value as well. -/
namespace Go.Proofs.Ytalncebnahlmdaa
open Go.RowKit
/-- any value of which both lists are owned -/
theorem any_of_own {B0 M : Nat} {w : World} {h : Hd} {a : Option Addr} {c : Nat} {F : Vo} (h6 : w.ownsRow B0 28 6 (.slice a F.len c) F.len F.cells) (h1 : w.ownsRow B0 9 1 (.slice h.na h.ns.length h.nc) h.ns.length (texts h.ns)) (hk : F.Kin w) (hcl : F.Cl w)
    (hB : F.Blk (fun x => B0 ≤ x ∧ x < w.heap.size)) (hM : F.size ≤ M) (hwt : F.wt ≤ 60 * M) (hfew : fw h F) (hn : h.ns.length ≤ 4) (ht : h.t.size ≤ 7) (hs : ∀ s ∈ h.ns, s.size ≤ 10) : AnyS B0 M w h a c F := by
  obtain ⟨a', c', e6, hl6, hc6, h06⟩ := own_lies h6
  cases e6
  refine ⟨⟨Vo.kin_one.2 ⟨hl6.in hk, hc6, hin_of h1 ht hs⟩, ⟨own_pl h6, hcl, trivial⟩⟩, ⟨?_, ?_, hB, trivial⟩, ⟨hM, hwt, hfew⟩, hn, ht, hs⟩
  · obtain ⟨a2, c2, e2, _, _, h0⟩ := own_lies h1
    rcases h0 with h0 | ⟨x, e1, e3, e4⟩
    · exact .inl (List.eq_nil_of_length_eq_zero h0)
    · refine .inr ⟨x, 0, ?_, e4, (h1.lt x e3).2⟩
      cases e2; exact e1
  · rcases h06 with h0 | ⟨x, e1, e3, e4⟩
    · left
      cases F with
      | nil => rfl
      | cons h0' a0 c0 k0 n0 => exact absurd h0 (Nat.succ_ne_zero _)
    · exact .inr ⟨x, 0, e1, e4, (h6.lt x e3).2⟩
theorem alike_wt : ∀ {G F : Vo}, F.alike G → F.wt = G.wt := by
  intro G
  induction G with
  | nil => intro F h; rw [Vo.alike_nil h]
  | cons h a c kids next ih1 ih2 =>
    intro F x
    obtain ⟨h', a', c', kids', next', rfl, h0, h1, h2⟩ := Vo.alike_cons x
    show h'.t.size + kids'.wt + sWt h'.ns + 1 + next'.wt = h.t.size + kids.wt + sWt h.ns + 1 + next.wt
    rw [ih1 h1, ih2 h2, h0.2, h0.1.2.2.2]
theorem alike_few : ∀ {G F : Vo} {N : Nat}, F.alike G → G.few N → F.few N := by
  intro G
  induction G with
  | nil => intro F N h _; rw [Vo.alike_nil h]; trivial
  | cons h a c kids next ih1 ih2 =>
    rintro F N x ⟨y1, y2, y3⟩
    obtain ⟨h', a', c', kids', next', rfl, h0, h1, h2⟩ := Vo.alike_cons x
    exact ⟨by rw [h0.2]; exact y1, ih1 h1 y2, ih2 h2 y3⟩
theorem fw_alike {h g : Hd} {F G : Vo} (s : h.same g) (x : F.alike G) (y : fw g G) : fw h F :=
  ⟨alike_few x y.1, fun e => (by rw [Vo.alike_len x, s.2]; exact y.2.1 (s.1.1.symm.trans e)), Vo.nob_alike x y.2.2⟩
theorem own_any {B1 b M : Nat} {w wf : World} {hx : Hd} {ax : Option Addr} {cx : Nat} {FX : Vo} (hv : OwnS B1 w hx ax cx FX) (hb : b < B1) (hO : Otb b w wf) (hM : FX.size ≤ M) (hwt : FX.wt ≤ 60 * M) (hfw : fw hx FX) (hn : hx.ns.length ≤ 4) (ht : hx.t.size ≤ 7) (hs : ∀ s ∈ hx.ns, s.size ≤ 10) : AnyS B1 M wf hx ax cx FX := by
  obtain ⟨_, h6, h1, hkk, hB⟩ := hv
  have hOt := hO.otr none
  have hb0 : FX.Blk (fun x => ¬ x = b ∧ some x ≠ (none : Option Nat)) := hB.mono fun x hx => ⟨by omega, fun e => by cases e⟩
  have hz := hO.1
  exact any_of_own (hO.own h6 hb) (hO.own h1 hb) (hOt.kin hb0 hkk.1) (hOt.cl hb0 hkk.2.1) (hB.mono fun x hx => by omega) hM hwt hfw hn ht hs
end Go.Proofs.Ytalncebnahlmdaa
/- Drawn values: DrawValueSame. -/
namespace Go.Proofs.Ytalncebnahlmdaa
open Go.RowKit
attribute [local go_sem] cell_alloc_is frozen_alloc_is
set_option maxRecDepth 100000 in
set_option maxHeartbeats 2000000 in
theorem ds4 {Q : Exit → Act → World → Prop} {t0 t1 t6 t7 t8 t9 t10 t11 t12 t13 t14 t15 t16 t17 t18 : Value} {w0 : World} {B b : Nat} {a : Option Addr} {len cap : Nat} {p2 : Int} {W : World} {vb r0 r1 B0 M : Nat} {hV : Hd} {av : Option Addr} {c : Nat} {F : Vo}
    (hvb : ¬ vb = b) (h0b : ¬ r0 = b) (h1b : ¬ r1 = b) (hv0 : ¬ vb = r0) (hv1 : ¬ vb = r1) (h01 : ¬ r1 = r0) (hV0 : Row W vb (six hV av F.len c)) (hZ0 : Row W r0 zero6) (hZ1 : Row W r1 zero6) (hC : Calls Try.prog 30 #[valV hV av F.len c] W.drew fun e w' => ∃ h1 G ag cg p', e = .returned (valV h1 ag G.len cg) ∧ AnyS B0 M w' h1 ag cg G ∧ p' ≤ p2 ∧ Rd w0 B b a len cap p' w' ∧ Otb b W w')
    (hp : ∀ p d v a w, Q (.panic p) (Act.put a d v) w → Q (.panic p) a w) (h : ∀ ws h1 ag cg G p' v13 v14 v15, Otb b W ws → Rd w0 B b a len cap p' ws → p' ≤ p2 → AnyS B0 M ws h1 ag cg G → Q .normal { tmps := (t0 :: t1 :: .pointer (some ⟨r0, 0, none⟩) :: .pointer (some ⟨r1, 0, none⟩) :: .pointer (some ⟨b, 0, none⟩) :: .pointer (some ⟨vb, 0, none⟩) :: t6 :: t7 :: t8 :: t9 :: t10 :: t11 :: t12 :: v13 :: v14 :: v15 :: t16 :: t17 :: t18 :: []).toArray, defers := [] } (put6 (put6 ws r0 0 (.int .i64 hV.k) (.int .i64 hV.m) (.int .i64 hV.e) (.string hV.t) (.slice av F.len c) (.slice hV.na hV.ns.length hV.nc)) r1 0 (.int .i64 h1.k) (.int .i64 h1.m) (.int .i64 h1.e) (.string h1.t) (.slice ag G.len cg) (.slice h1.na h1.ns.length h1.nc))) :
    Code.wp Try.prog (Code.region 4 #[{ dst := some 13, op := Op.load 28 (Operand.tmp 5), type := 28, pos := "l14_draw.go:616", after := #[], guard := none }, { dst := some 14, op := Op.load 28 (Operand.tmp 5), type := 28, pos := "l14_draw.go:616", after := #[], guard := none }, { dst := some 15, op := Op.call { callee := Callee.value (Operand.func 30), args := #[Operand.tmp 14], argTypes := #[28] }, type := 28, pos := "l14_draw.go:616", after := #[{ on := 1, ground := Ground.data }], guard := none }, { dst := none, op := Op.store 28 (Operand.tmp 2) (Operand.tmp 13), type := 0, pos := "l14_draw.go:616", after := #[{ on := 0, ground := Ground.data }, { on := 2, ground := Ground.chain }, { on := 0, ground := Ground.phase }, { on := 1, ground := Ground.textOnly Departure.lateStores }, { on := 2, ground := Ground.textOnly Departure.lateStoresUnsure }], guard := none }, { dst := none, op := Op.store 28 (Operand.tmp 3) (Operand.tmp 15), type := 0, pos := "l14_draw.go:616", after := #[{ on := 2, ground := Ground.data }, { on := 3, ground := Ground.chain }, { on := 0, ground := Ground.phase }, { on := 1, ground := Ground.phase }, { on := 2, ground := Ground.phase }, { on := 3, ground := Ground.phase }], guard := none }] true) Q { tmps := (t0 :: t1 :: .pointer (some ⟨r0, 0, none⟩) :: .pointer (some ⟨r1, 0, none⟩) :: .pointer (some ⟨b, 0, none⟩) :: .pointer (some ⟨vb, 0, none⟩) :: t6 :: t7 :: t8 :: t9 :: t10 :: t11 :: t12 :: t13 :: t14 :: t15 :: t16 :: t17 :: t18 :: []).toArray, defers := [] } W := by
  have HS : Hid (∀ w', Otb b W w' → Cells6 w' vb 0 hV (.slice av F.len c)) := fun w' h => by
    have hr := Row.otb h hvb hV0
    exact ⟨(hr 0 _ rfl).1, (hr 1 _ rfl).1, (hr 2 _ rfl).1, (hr 3 _ rfl).1, (hr 4 _ rfl).1, (hr 5 _ rfl).1⟩
  have HZ : Hid (∀ w', Otb b W w' → Row w' r0 zero6 ∧ Row w' r1 zero6) := fun w' h => ⟨Row.otb h h0b hZ0, Row.otb h h1b hZ1⟩
  have hO := (Otb.refl b W).drew
  have hS0 := HS.out _ hO
  have HOd : Hid (Otb b W W.drew) := hO
  have HC : Hid (Calls Try.prog 30 #[valV hV av F.len c] W.drew fun e w' => ∃ h1 G ag cg p', e = .returned (valV h1 ag G.len cg) ∧ AnyS B0 M w' h1 ag cg G ∧ p' ≤ p2 ∧ Rd w0 B b a len cap p' w' ∧ Otb b W w') := hC
  clear hV0 hZ0 hZ1 hC hO
  refine wp_region_held_drew (S := fun w' => Cells6 w' vb 0 hV (.slice av F.len c)) (by kernel_rfl) hS0 (fun hHeld => ?_)
  generalize W.drew = Wd at *
  refine wpAnyH_take (i := 0) (v := valV hV av F.len c) rfl (by kernel_rfl) (by kernel_rfl) (by kernel_rfl) (fun _ _ _ h => hp _ _ _ _ _ h) (Or.inl ⟨by rfl, ?_⟩) (by assumption) ?_
  · intro w hSw
    (try dsimp only at hSw)
    (obtain ⟨l0, l1, l2, l3, l4, l5⟩ := hSw; go_simp)
  (try simp only [Act.put, List.getElem_toArray, List.getElem_cons_zero, List.setIfInBounds_toArray, List.set_cons_zero, List.set_cons_succ])
  refine wpAnyH_take (i := 1) (v := valV hV av F.len c) rfl (by kernel_rfl) (by kernel_rfl) (by kernel_rfl) (fun _ _ _ h => hp _ _ _ _ _ h) (Or.inl ⟨by rfl, ?_⟩) (by assumption) ?_
  · intro w hSw
    (try dsimp only at hSw)
    (obtain ⟨l0, l1, l2, l3, l4, l5⟩ := hSw; go_simp)
  (try simp only [Act.put, List.getElem_toArray, List.getElem_cons_zero, List.getElem_cons_succ, List.setIfInBounds_toArray, List.set_cons_zero, List.set_cons_succ])
  clear hS0 hHeld
  refine wpAnyH_ready (rs := [2]) (by kernel_rfl) (by simp) ?_
  refine AllReadyH.cons rfl (fun K hK => ?_) AllReadyH.nil
  go_simp
  refine HC.out.mono ?_
  rintro r ws ⟨h1, G, ag, cg, p', rfl, hg, hp1, hR1, hO1⟩
  go_wp2_with fail
  refine hK.out _ _ (HS.out _ hO1) (fun hHeld => ?_)
  clear hK K
  obtain ⟨hz0, hz1⟩ := HZ.out _ hO1
  have hHw := HS.out _ hO1
  have hz1' : Row (put6 ws r0 0 (.int .i64 hV.k) (.int .i64 hV.m) (.int .i64 hV.e) (.string hV.t) (.slice av F.len c) (.slice hV.na hV.ns.length hV.nc)) r1 zero6 := (Otr.put6 b (j := r0) (o := 0) ws (.int .i64 hV.k) (.int .i64 hV.m) (.int .i64 hV.e) (.string hV.t) (.slice av F.len c) (.slice hV.na hV.ns.length hV.nc)).row h1b (fun e => h01 (Option.some.inj e)) hz1
  have hH1 : Cells6 (put6 ws r0 0 (.int .i64 hV.k) (.int .i64 hV.m) (.int .i64 hV.e) (.string hV.t) (.slice av F.len c) (.slice hV.na hV.ns.length hV.nc)) vb 0 hV (.slice av F.len c) := hHw.mono fun o' u hu => (put6_other (.inl hv0)).trans hu
  have hH2 : Cells6 (put6 (put6 ws r0 0 (.int .i64 hV.k) (.int .i64 hV.m) (.int .i64 hV.e) (.string hV.t) (.slice av F.len c) (.slice hV.na hV.ns.length hV.nc)) r1 0 (.int .i64 h1.k) (.int .i64 h1.m) (.int .i64 h1.e) (.string h1.t) (.slice ag G.len cg) (.slice h1.na h1.ns.length h1.nc)) vb 0 hV (.slice av F.len c) := hH1.mono fun o' u hu => (put6_other (.inl hv1)).trans hu
  obtain ⟨c0, fz0⟩ := hz0 0 _ rfl
  obtain ⟨c1, fz1⟩ := hz0 1 _ rfl
  obtain ⟨c2, fz2⟩ := hz0 2 _ rfl
  obtain ⟨c3, fz3⟩ := hz0 3 _ rfl
  obtain ⟨c4, fz4⟩ := hz0 4 _ rfl
  obtain ⟨c5, fz5⟩ := hz0 5 _ rfl
  clear hz0 hz1 hHw hHeld
  refine wpAnyH_ready (rs := [3]) (by kernel_rfl) (by simp) ?_
  refine AllReadyH.cons rfl (fun K hK => ?_) AllReadyH.nil
  go_simp
  refine hK.out _ (put6 ws r0 0 (.int .i64 hV.k) (.int .i64 hV.m) (.int .i64 hV.e) (.string hV.t) (.slice av F.len c) (.slice hV.na hV.ns.length hV.nc)) hH1 (fun hHeld => ?_)
  clear hK K hHeld c0 fz0 c1 fz1 c2 fz2 c3 fz3 c4 fz4 c5 fz5
  obtain ⟨c0, fz0⟩ := hz1' 0 _ rfl
  obtain ⟨c1, fz1⟩ := hz1' 1 _ rfl
  obtain ⟨c2, fz2⟩ := hz1' 2 _ rfl
  obtain ⟨c3, fz3⟩ := hz1' 3 _ rfl
  obtain ⟨c4, fz4⟩ := hz1' 4 _ rfl
  obtain ⟨c5, fz5⟩ := hz1' 5 _ rfl
  clear hz1'
  have HF := fun v13 v14 v15 => h ws h1 ag cg G p' v13 v14 v15 hO1 hR1 hp1 hg
  clear h
  generalize (put6 ws r0 0 (.int .i64 hV.k) (.int .i64 hV.m) (.int .i64 hV.e) (.string hV.t) (.slice av F.len c) (.slice hV.na hV.ns.length hV.nc)) = wp at *
  refine wpAnyH_ready (rs := [4]) (by kernel_rfl) (by simp) ?_
  refine AllReadyH.cons rfl (fun K hK => ?_) AllReadyH.nil
  go_simp
  refine hK.out _ (put6 wp r1 0 (.int .i64 h1.k) (.int .i64 h1.m) (.int .i64 h1.e) (.string h1.t) (.slice ag G.len cg) (.slice h1.na h1.ns.length h1.nc)) hH2 (fun hHeld => ?_)
  refine wpAnyH_done (by kernel_rfl) ?_ _
  exact HF _ _ _ 
set_option maxRecDepth 100000 in
set_option maxHeartbeats 2000000 in
theorem ds5 {Q : Exit → Act → World → Prop} {t0 t1 t6 t7 t8 t9 t10 t11 t12 t13 t14 t15 t16 t17 t18 : Value} {w0 : World} {B b : Nat} {a : Option Addr} {len cap : Nat} {p2 : Int} {W : World} {vb r0 r1 B0 M : Nat} {hV : Hd} {av : Option Addr} {c : Nat} {F : Vo}
    (hvb : ¬ vb = b) (h0b : ¬ r0 = b) (h1b : ¬ r1 = b) (hv0 : ¬ vb = r0) (hv1 : ¬ vb = r1) (h01 : ¬ r1 = r0) (hV0 : Row W vb (six hV av F.len c)) (hZ0 : Row W r0 zero6) (hZ1 : Row W r1 zero6) (hC : Calls Try.prog 22 #[.pointer (some ⟨b, 0, none⟩)] W.drew fun e w' => ∃ h1 G ag cg p', e = .returned (valV h1 ag G.len cg) ∧ AnyS B0 M w' h1 ag cg G ∧ p' ≤ p2 ∧ Rd w0 B b a len cap p' w' ∧ Otb b W w')
    (hp : ∀ p d v a w, Q (.panic p) (Act.put a d v) w → Q (.panic p) a w) (h : ∀ ws h1 ag cg G p' v16 v17 v18, Otb b W ws → Rd w0 B b a len cap p' ws → p' ≤ p2 → AnyS B0 M ws h1 ag cg G → Q .normal { tmps := (t0 :: t1 :: .pointer (some ⟨r0, 0, none⟩) :: .pointer (some ⟨r1, 0, none⟩) :: .pointer (some ⟨b, 0, none⟩) :: .pointer (some ⟨vb, 0, none⟩) :: t6 :: t7 :: t8 :: t9 :: t10 :: t11 :: t12 :: t13 :: t14 :: t15 :: v16 :: v17 :: v18 :: []).toArray, defers := [] } (put6 (put6 ws r0 0 (.int .i64 hV.k) (.int .i64 hV.m) (.int .i64 hV.e) (.string hV.t) (.slice av F.len c) (.slice hV.na hV.ns.length hV.nc)) r1 0 (.int .i64 h1.k) (.int .i64 h1.m) (.int .i64 h1.e) (.string h1.t) (.slice ag G.len cg) (.slice h1.na h1.ns.length h1.nc))) :
    Code.wp Try.prog (Code.region 5 #[{ dst := some 16, op := Op.load 28 (Operand.tmp 5), type := 28, pos := "l14_draw.go:618", after := #[], guard := none }, { dst := some 17, op := Op.move (Operand.tmp 4), type := 42, pos := "l14_draw.go:618", after := #[], guard := none }, { dst := some 18, op := Op.call { callee := Callee.value (Operand.func 22), args := #[Operand.tmp 17], argTypes := #[42] }, type := 28, pos := "l14_draw.go:618", after := #[{ on := 1, ground := Ground.data }], guard := none }, { dst := none, op := Op.store 28 (Operand.tmp 2) (Operand.tmp 16), type := 0, pos := "l14_draw.go:618", after := #[{ on := 0, ground := Ground.data }, { on := 2, ground := Ground.chain }, { on := 0, ground := Ground.phase }, { on := 1, ground := Ground.textOnly Departure.lateStores }, { on := 2, ground := Ground.textOnly Departure.lateStoresUnsure }], guard := none }, { dst := none, op := Op.store 28 (Operand.tmp 3) (Operand.tmp 18), type := 0, pos := "l14_draw.go:618", after := #[{ on := 2, ground := Ground.data }, { on := 3, ground := Ground.chain }, { on := 0, ground := Ground.phase }, { on := 1, ground := Ground.phase }, { on := 2, ground := Ground.phase }, { on := 3, ground := Ground.phase }], guard := none }] true) Q { tmps := (t0 :: t1 :: .pointer (some ⟨r0, 0, none⟩) :: .pointer (some ⟨r1, 0, none⟩) :: .pointer (some ⟨b, 0, none⟩) :: .pointer (some ⟨vb, 0, none⟩) :: t6 :: t7 :: t8 :: t9 :: t10 :: t11 :: t12 :: t13 :: t14 :: t15 :: t16 :: t17 :: t18 :: []).toArray, defers := [] } W := by
  have HS : Hid (∀ w', Otb b W w' → Cells6 w' vb 0 hV (.slice av F.len c)) := fun w' h => by
    have hr := Row.otb h hvb hV0
    exact ⟨(hr 0 _ rfl).1, (hr 1 _ rfl).1, (hr 2 _ rfl).1, (hr 3 _ rfl).1, (hr 4 _ rfl).1, (hr 5 _ rfl).1⟩
  have HZ : Hid (∀ w', Otb b W w' → Row w' r0 zero6 ∧ Row w' r1 zero6) := fun w' h => ⟨Row.otb h h0b hZ0, Row.otb h h1b hZ1⟩
  have hO := (Otb.refl b W).drew
  have hS0 := HS.out _ hO
  have HOd : Hid (Otb b W W.drew) := hO
  have HC : Hid (Calls Try.prog 22 #[.pointer (some ⟨b, 0, none⟩)] W.drew fun e w' => ∃ h1 G ag cg p', e = .returned (valV h1 ag G.len cg) ∧ AnyS B0 M w' h1 ag cg G ∧ p' ≤ p2 ∧ Rd w0 B b a len cap p' w' ∧ Otb b W w') := hC
  clear hV0 hZ0 hZ1 hC hO
  refine wp_region_held_drew (S := fun w' => Cells6 w' vb 0 hV (.slice av F.len c)) (by kernel_rfl) hS0 (fun hHeld => ?_)
  generalize W.drew = Wd at *
  refine wpAnyH_take (i := 0) (v := valV hV av F.len c) rfl (by kernel_rfl) (by kernel_rfl) (by kernel_rfl) (fun _ _ _ h => hp _ _ _ _ _ h) (Or.inl ⟨by rfl, ?_⟩) (by assumption) ?_
  · intro w hSw
    (try dsimp only at hSw)
    (obtain ⟨l0, l1, l2, l3, l4, l5⟩ := hSw; go_simp)
  (try simp only [Act.put, List.getElem_toArray, List.getElem_cons_zero, List.setIfInBounds_toArray, List.set_cons_zero, List.set_cons_succ])
  refine wpAnyH_take (i := 1) (v := .pointer (some ⟨b, 0, none⟩)) rfl (by kernel_rfl) (by kernel_rfl) (by kernel_rfl) (fun _ _ _ h => hp _ _ _ _ _ h) (Or.inl ⟨by rfl, ?_⟩) (by assumption) ?_
  · intro w hSw
    (try dsimp only at hSw)
    go_simp
  (try simp only [Act.put, List.getElem_toArray, List.getElem_cons_zero, List.getElem_cons_succ, List.setIfInBounds_toArray, List.set_cons_zero, List.set_cons_succ])
  clear hS0 hHeld
  refine wpAnyH_ready (rs := [2]) (by kernel_rfl) (by simp) ?_
  refine AllReadyH.cons rfl (fun K hK => ?_) AllReadyH.nil
  go_simp
  refine HC.out.mono ?_
  rintro r ws ⟨h1, G, ag, cg, p', rfl, hg, hp1, hR1, hO1⟩
  go_wp2_with fail
  refine hK.out _ _ (HS.out _ hO1) (fun hHeld => ?_)
  clear hK K
  obtain ⟨hz0, hz1⟩ := HZ.out _ hO1
  have hHw := HS.out _ hO1
  have hz1' : Row (put6 ws r0 0 (.int .i64 hV.k) (.int .i64 hV.m) (.int .i64 hV.e) (.string hV.t) (.slice av F.len c) (.slice hV.na hV.ns.length hV.nc)) r1 zero6 := (Otr.put6 b (j := r0) (o := 0) ws (.int .i64 hV.k) (.int .i64 hV.m) (.int .i64 hV.e) (.string hV.t) (.slice av F.len c) (.slice hV.na hV.ns.length hV.nc)).row h1b (fun e => h01 (Option.some.inj e)) hz1
  have hH1 : Cells6 (put6 ws r0 0 (.int .i64 hV.k) (.int .i64 hV.m) (.int .i64 hV.e) (.string hV.t) (.slice av F.len c) (.slice hV.na hV.ns.length hV.nc)) vb 0 hV (.slice av F.len c) := hHw.mono fun o' u hu => (put6_other (.inl hv0)).trans hu
  have hH2 : Cells6 (put6 (put6 ws r0 0 (.int .i64 hV.k) (.int .i64 hV.m) (.int .i64 hV.e) (.string hV.t) (.slice av F.len c) (.slice hV.na hV.ns.length hV.nc)) r1 0 (.int .i64 h1.k) (.int .i64 h1.m) (.int .i64 h1.e) (.string h1.t) (.slice ag G.len cg) (.slice h1.na h1.ns.length h1.nc)) vb 0 hV (.slice av F.len c) := hH1.mono fun o' u hu => (put6_other (.inl hv1)).trans hu
  obtain ⟨c0, fz0⟩ := hz0 0 _ rfl
  obtain ⟨c1, fz1⟩ := hz0 1 _ rfl
  obtain ⟨c2, fz2⟩ := hz0 2 _ rfl
  obtain ⟨c3, fz3⟩ := hz0 3 _ rfl
  obtain ⟨c4, fz4⟩ := hz0 4 _ rfl
  obtain ⟨c5, fz5⟩ := hz0 5 _ rfl
  clear hz0 hz1 hHw hHeld
  refine wpAnyH_ready (rs := [3]) (by kernel_rfl) (by simp) ?_
  refine AllReadyH.cons rfl (fun K hK => ?_) AllReadyH.nil
  go_simp
  refine hK.out _ (put6 ws r0 0 (.int .i64 hV.k) (.int .i64 hV.m) (.int .i64 hV.e) (.string hV.t) (.slice av F.len c) (.slice hV.na hV.ns.length hV.nc)) hH1 (fun hHeld => ?_)
  clear hK K hHeld c0 fz0 c1 fz1 c2 fz2 c3 fz3 c4 fz4 c5 fz5
  obtain ⟨c0, fz0⟩ := hz1' 0 _ rfl
  obtain ⟨c1, fz1⟩ := hz1' 1 _ rfl
  obtain ⟨c2, fz2⟩ := hz1' 2 _ rfl
  obtain ⟨c3, fz3⟩ := hz1' 3 _ rfl
  obtain ⟨c4, fz4⟩ := hz1' 4 _ rfl
  obtain ⟨c5, fz5⟩ := hz1' 5 _ rfl
  clear hz1'
  have HF := fun v16 v17 v18 => h ws h1 ag cg G p' v16 v17 v18 hO1 hR1 hp1 hg
  clear h
  generalize (put6 ws r0 0 (.int .i64 hV.k) (.int .i64 hV.m) (.int .i64 hV.e) (.string hV.t) (.slice av F.len c) (.slice hV.na hV.ns.length hV.nc)) = wp at *
  refine wpAnyH_ready (rs := [4]) (by kernel_rfl) (by simp) ?_
  refine AllReadyH.cons rfl (fun K hK => ?_) AllReadyH.nil
  go_simp
  refine hK.out _ (put6 wp r1 0 (.int .i64 h1.k) (.int .i64 h1.m) (.int .i64 h1.e) (.string h1.t) (.slice ag G.len cg) (.slice h1.na h1.ns.length h1.nc)) hH2 (fun hHeld => ?_)
  refine wpAnyH_done (by kernel_rfl) ?_ _
  exact HF _ _ _ 
end Go.Proofs.Ytalncebnahlmdaa
