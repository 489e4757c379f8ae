/- My own texts, joined: Ul Um LFnValueOk. -/
import Derived.Test.YtafhpplhlmlfhaaJFnValueOk13
import Derived.Test.YtafhpplhlmlfhaaJFnValueOk5
import Derived.Test.YtafhpplhlmlfhaaJFnValueOk8
import Derived.Test.YtafhpplhlmlfhaaJFnValueOk6
import Derived.Deep.RegionHeld3
/- Drawn values: l14AnyValue, and the draws of one value. -/
namespace Go.Proofs.Ytafhpplhlmlfhaa
open Go.RowKit
attribute [local go_sem] cell_alloc_is frozen_alloc_is
theorem small_d {n : Nat} (h : n < 3) : pkD (n + 1) ≤ 1356 ∧ szD (n + 1) ≤ 39 := by
  have : n = 0 ∨ n = 1 ∨ n = 2 := by omega
  rcases this with rfl | rfl | rfl <;> decide
theorem blk_ne {F : Vo} {vb : Nat} (h : F.Blk (fun x => ¬ x = vb)) : F.Blk (fun x => some x ≠ some vb) := h.mono fun _ hx e => hx (Option.some.inj e)
theorem AnyS.put {B0 M b vb o : Nat} {w : World} {h : Hd} {a : Option Addr} {c : Nat} {F : Vo} (x : AnyS B0 M w h a c F) (hb : b < B0) (hf : (oneV h a c F).Blk (fun x => ¬ x = vb)) (u : Value) : AnyS B0 M (w.setCell ⟨vb, o, none⟩ u) h a c F :=
  x.otr2 (Otr.setCell b w u) hb (blk_ne hf)

set_option maxRecDepth 100000 in
set_option maxHeartbeats 2000000 in
theorem l14AnyValue_any {w0 : World} {B b : Nat} {a : Option Addr} {len cap : Nat} (p : Int) (W : World) (hR : Rd w0 B b a len cap p W) (hp : p ≤ 70000) :
    Calls Try.prog 22 #[.pointer (some ⟨b, 0, none⟩)] W fun e w' => ∃ hV F av c p', e = .returned (valV hV av F.len c) ∧ AnyS W.heap.size 60 w' hV av c F ∧ p' ≤ p + 2000 ∧ Rd w0 B b a len cap p' w' ∧ Otb b W w' := by
  have hlt := hR.lt
  have hne : ¬ W.heap.size = b := by omega
  have Z0 : Row (W.alloc (.cells #[.int .i64 0, .int .i64 0, .int .i64 0, .string ⟨#[]⟩, .slice none 0 0, .slice none 0 0] 28)) W.heap.size zero6 := Row.new W zero6 28
  have R0 := hR.below ((Below.refl _ W).alloc (Nat.le_refl _) (.cells #[.int .i64 0, .int .i64 0, .int .i64 0, .string ⟨#[]⟩, .slice none 0 0, .slice none 0 0] 28))
  have O0 := (Otb.refl b W).alloc (.cells #[.int .i64 0, .int .i64 0, .int .i64 0, .string ⟨#[]⟩, .slice none 0 0, .slice none 0 0] 28)
  have hz0 : W.heap.size < (W.alloc (.cells #[.int .i64 0, .int .i64 0, .int .i64 0, .string ⟨#[]⟩, .slice none 0 0, .slice none 0 0] 28)).heap.size := by simp
  clear hR
  go_enter Try.func22, Try.ntmps22
  go_wp2_with fail
  generalize W.alloc (.cells #[.int .i64 0, .int .i64 0, .int .i64 0, .string ⟨#[]⟩, .slice none 0 0, .slice none 0 0] 28) = W1 at *
  refine (pick_any 3 R0 (by omega) (by omega) (by omega)).mono ?_
  rintro r w1 ⟨⟨v0, rfl, v00, v01⟩, s1⟩
  have R1 := R0.step s1
  have Z1 : Row w1 W.heap.size zero6 := Row.otb ((Otb.refl b W1).stepped s1) hne Z0
  have O1 := O0.stepped s1
  have hz1 : W.heap.size < w1.heap.size := by rw [s1.other.2.2]; exact hz0
  clear Z0 R0 O0 hz0 s1
  obtain ⟨n, rfl⟩ := Int.eq_ofNat_of_zero_le v00
  obtain ⟨pk, sz⟩ := small_d (n := n) (by omega)
  have e1 : (1 : Int) + (n : Int) = ((n + 1 : Nat) : Int) := by omega
  have hl14 := l14Value_any (w0 := w0) (B := B) (b := b) (a := a) (len := len) (cap := cap) (n + 1) (by omega) (p + 1) w1 R1 (by omega)
  rw [← e1] at hl14
  have HL : Hid (Calls Try.prog 43 #[.pointer (some ⟨b, 0, none⟩), .int .i64 (1 + (n : Int))] w1 _) := hl14
  clear hl14 e1
  go_wp2_with fail
  refine HL.out.mono ?_
  rintro r w2 ⟨hV, F, av, c, p2, rfl, hval, hp2, R2, O12⟩
  have Z2 : Row w2 W.heap.size zero6 := Row.otb O12 hne Z1
  have O2 := O1.trans O12
  have hz2 : W.heap.size < w2.heap.size := Nat.lt_of_lt_of_le hz1 O12.1
  have hb1 : b < w1.heap.size := R1.lt
  have hnvb : ∀ x, blkOf hV.na = some x → W.heap.size < x ∧ x < w2.heap.size := fun x hx => by
    have h5 := hval.2.2.1.lt x (by rw [ownBlock_blkOf]; exact hx)
    omega
  have hfar : (oneV hV av c F).Blk (fun x => x < w2.heap.size) := hval.blk.mono fun x hx => hx.2
  have hval1 := hval.mono (B1 := W.heap.size + 1) (L' := 3) (M' := 39) (by omega) (Nat.le_refl _) sz
  have hp3 : p2 ≤ p + 1 + 1356 := by omega
  clear HL Z1 R1 O1 O12 hz1 hval hp2 pk sz
  have hbW : Below w2.heap.size w2 (w2.alloc (.cells #[.int .i64 hV.k, .int .i64 hV.m, .int .i64 hV.e, .string hV.t, .slice av F.len c, .slice hV.na hV.ns.length hV.nc] 28)) := (Below.refl _ _).alloc (Nat.le_refl _) _
  have V3 : Row (w2.alloc (.cells #[.int .i64 hV.k, .int .i64 hV.m, .int .i64 hV.e, .string hV.t, .slice av F.len c, .slice hV.na hV.ns.length hV.nc] 28)) w2.heap.size (six hV av F.len c) := Row.new w2 _ _
  have Z3 := Z2.below hbW hz2
  have R3 := R2.below hbW
  have O3 := O2.alloc (.cells #[.int .i64 hV.k, .int .i64 hV.m, .int .i64 hV.e, .string hV.t, .slice av F.len c, .slice hV.na hV.ns.length hV.nc] 28)
  have S3 := hval1.below hbW
  have hsz : w2.heap.size < (w2.alloc (.cells #[.int .i64 hV.k, .int .i64 hV.m, .int .i64 hV.e, .string hV.t, .slice av F.len c, .slice hV.na hV.ns.length hV.nc] 28)).heap.size := by simp
  have HNv : Hid (∀ x, blkOf hV.na = some x → W.heap.size < x ∧ x < w2.heap.size) := hnvb
  have HFar : Hid ((oneV hV av c F).Blk (fun x => x < w2.heap.size)) := hfar
  have HZ2 : Hid (W.heap.size < w2.heap.size) := hz2
  clear hnvb hfar hval1 Z2 R2 O2 hbW hz2
  go_wp2_with fail
  obtain ⟨vb, hvb⟩ : ∃ vb, w2.heap.size = vb := ⟨_, rfl⟩
  rw [hvb] at V3 hsz HFar HNv HZ2 ⊢
  generalize w2.alloc (.cells #[.int .i64 hV.k, .int .i64 hV.m, .int .i64 hV.e, .string hV.t, .slice av F.len c, .slice hV.na hV.ns.length hV.nc] 28) = W3 at *
  clear hvb
  refine (pick_any 20 R3 (by omega) (by omega) (by omega)).mono ?_
  rintro r w4 ⟨⟨v, rfl, v0, v1⟩, s4⟩
  have hvb2 : ¬ vb = b := by have := HZ2.out; omega
  have R4 := R3.step s4
  have V4 : Row w4 vb (six hV av F.len c) := Row.otb ((Otb.refl b W3).stepped s4) hvb2 V3
  have Z4 : Row w4 W.heap.size zero6 := Row.otb ((Otb.refl b W3).stepped s4) hne Z3
  have O4 := O3.stepped s4
  have S4 : ValS (W.heap.size + 1) 3 39 w4 hV av c F := S3.otr (((Otb.refl b W3).stepped s4).otr none) (by omega) (fun g hg => by cases hg)
  have hz4 : vb < w4.heap.size := by rw [s4.other.2.2]; exact hsz
  have hbB : b < W.heap.size + 1 := by omega
  have HFn : Hid ((oneV hV av c F).Blk (fun x => ¬ x = vb)) := HFar.out.mono fun x hx => by omega
  clear V3 Z3 R3 O3 S3 s4 hsz
  have hv : v = 0 ∨ v = 1 ∨ v = 2 ∨ v = 3 ∨ v = 4 ∨ 5 ≤ v := by omega
  rcases hv with rfl | rfl | rfl | rfl | rfl | hv
  · have hb : Below w4.heap.size w4 (w4.alloc (.cells #[.int .i64 (-1), .int .i64 7, .int .i64 5] 3)) := (Below.refl _ _).alloc (Nat.le_refl _) _
    have R5 := R4.below hb
    go_wp2_with fail
    refine (one_any R5 (by omega) w4.heap.size 3 [-1, 7, 5] (by have := HZ2.out; omega) rfl (by omega) (by omega) (cells_list w4 [-1, 7, 5] 3)).mono ?_
    rintro r w5 ⟨⟨z, rfl, _⟩, s5⟩
    have R6 := R5.step s5
    have O45 : Otb b w4 w5 := ((Otb.refl b w4).alloc (.cells #[.int .i64 (-1), .int .i64 7, .int .i64 5] 3)).stepped s5
    have V5 := Row.otb O45 hvb2 V4
    have Z5 := Row.otb O45 hne Z4
    have O5 := O4.trans O45
    have S5 := (S4.any (by omega)).otr (O45.otr none) hbB (fun g hg => by cases hg)
    clear R4 R5 V4 Z4 O4 S4 O45 hb s5
    obtain ⟨t0, f0⟩ := V5 0 _ rfl
    obtain ⟨t1, f1⟩ := V5 1 _ rfl
    obtain ⟨t2, f2⟩ := V5 2 _ rfl
    obtain ⟨t3, f3⟩ := V5 3 _ rfl
    obtain ⟨t4, f4⟩ := V5 4 _ rfl
    obtain ⟨t5, f5⟩ := V5 5 _ rfl
    have V9 := V5.set (i := 0) (by show 0 < 6; omega) (.int .i64 z)
    have Z9 := Z5.setOther (j := vb) (by have := HZ2.out; omega) 0 (.int .i64 z)
    have hb6 := R6.base_leU
    have R9 := R6.set (j := vb) (o := 0) (by have := HZ2.out; omega) (by omega) (.int .i64 z)
    have O9 := O5.set (j := vb) (o := 0) (by have := HZ2.out; omega) (.int .i64 z)
    have S9 := (S5.put (o := 0) hbB HFn.out (.int .i64 z)).head z hV.m hV.e hV.t S5.2.2.2.2.1
    have y00 := (V9 0 _ rfl).1
    clear V5 Z5 O5 S5 R6 V9 y00
    obtain ⟨r0, g0⟩ := Z9 0 _ rfl
    obtain ⟨r1, g1⟩ := Z9 1 _ rfl
    obtain ⟨r2, g2⟩ := Z9 2 _ rfl
    obtain ⟨r3, g3⟩ := Z9 3 _ rfl
    obtain ⟨r4, g4⟩ := Z9 4 _ rfl
    obtain ⟨r5, g5⟩ := Z9 5 _ rfl
    have HP6 := Row.put6 (v0 := .int .i64 ((Hd.mk z hV.m hV.e hV.t hV.na hV.nc hV.ns)).k) (v1 := .int .i64 ((Hd.mk z hV.m hV.e hV.t hV.na hV.nc hV.ns)).m) (v2 := .int .i64 ((Hd.mk z hV.m hV.e hV.t hV.na hV.nc hV.ns)).e) (v3 := .string ((Hd.mk z hV.m hV.e hV.t hV.na hV.nc hV.ns)).t) (v4 := .slice av (F).len c) (v5 := .slice ((Hd.mk z hV.m hV.e hV.t hV.na hV.nc hV.ns)).na ((Hd.mk z hV.m hV.e hV.t hV.na hV.nc hV.ns)).ns.length ((Hd.mk z hV.m hV.e hV.t hV.na hV.nc hV.ns)).nc) Z9
    have HO6 := Otr.put6 b (j := W.heap.size) (o := 0) (w5.setCell ⟨vb, 0, none⟩ (.int .i64 z)) (.int .i64 ((Hd.mk z hV.m hV.e hV.t hV.na hV.nc hV.ns)).k) (.int .i64 ((Hd.mk z hV.m hV.e hV.t hV.na hV.nc hV.ns)).m) (.int .i64 ((Hd.mk z hV.m hV.e hV.t hV.na hV.nc hV.ns)).e) (.string ((Hd.mk z hV.m hV.e hV.t hV.na hV.nc hV.ns)).t) (.slice av (F).len c) (.slice ((Hd.mk z hV.m hV.e hV.t hV.na hV.nc hV.ns)).na ((Hd.mk z hV.m hV.e hV.t hV.na hV.nc hV.ns)).ns.length ((Hd.mk z hV.m hV.e hV.t hV.na hV.nc hV.ns)).nc)
    have hb9 := R9.base_leU
    have S10 := (S9.otr HO6 hbB (fun g hg => by cases hg; omega)).mono (B1 := W.heap.size) (M' := 60) (by omega) (by omega)
    have R10 := R9.uptoU (put6_below (B := W.heap.size) (nb := W.heap.size) (o := 0) (Below.refl _ (w5.setCell ⟨vb, 0, none⟩ (.int .i64 z))) (Nat.le_refl _) (.int .i64 ((Hd.mk z hV.m hV.e hV.t hV.na hV.nc hV.ns)).k) (.int .i64 ((Hd.mk z hV.m hV.e hV.t hV.na hV.nc hV.ns)).m) (.int .i64 ((Hd.mk z hV.m hV.e hV.t hV.na hV.nc hV.ns)).e) (.string ((Hd.mk z hV.m hV.e hV.t hV.na hV.nc hV.ns)).t) (.slice av (F).len c) (.slice ((Hd.mk z hV.m hV.e hV.t hV.na hV.nc hV.ns)).na ((Hd.mk z hV.m hV.e hV.t hV.na hV.nc hV.ns)).ns.length ((Hd.mk z hV.m hV.e hV.t hV.na hV.nc hV.ns)).nc)) hlt (by omega)
    have O10 := O9.upto (put6_below (B := W.heap.size) (nb := W.heap.size) (o := 0) (Below.refl _ (w5.setCell ⟨vb, 0, none⟩ (.int .i64 z))) (Nat.le_refl _) (.int .i64 ((Hd.mk z hV.m hV.e hV.t hV.na hV.nc hV.ns)).k) (.int .i64 ((Hd.mk z hV.m hV.e hV.t hV.na hV.nc hV.ns)).m) (.int .i64 ((Hd.mk z hV.m hV.e hV.t hV.na hV.nc hV.ns)).e) (.string ((Hd.mk z hV.m hV.e hV.t hV.na hV.nc hV.ns)).t) (.slice av (F).len c) (.slice ((Hd.mk z hV.m hV.e hV.t hV.na hV.nc hV.ns)).na ((Hd.mk z hV.m hV.e hV.t hV.na hV.nc hV.ns)).ns.length ((Hd.mk z hV.m hV.e hV.t hV.na hV.nc hV.ns)).nc))
    have HS10 : Hid (AnyS W.heap.size 60 (put6 (w5.setCell ⟨vb, 0, none⟩ (.int .i64 z)) W.heap.size 0 (.int .i64 ((Hd.mk z hV.m hV.e hV.t hV.na hV.nc hV.ns)).k) (.int .i64 ((Hd.mk z hV.m hV.e hV.t hV.na hV.nc hV.ns)).m) (.int .i64 ((Hd.mk z hV.m hV.e hV.t hV.na hV.nc hV.ns)).e) (.string ((Hd.mk z hV.m hV.e hV.t hV.na hV.nc hV.ns)).t) (.slice av (F).len c) (.slice ((Hd.mk z hV.m hV.e hV.t hV.na hV.nc hV.ns)).na ((Hd.mk z hV.m hV.e hV.t hV.na hV.nc hV.ns)).ns.length ((Hd.mk z hV.m hV.e hV.t hV.na hV.nc hV.ns)).nc)) ((Hd.mk z hV.m hV.e hV.t hV.na hV.nc hV.ns)) av c F ∧ Rd w0 B b a len cap _ (put6 (w5.setCell ⟨vb, 0, none⟩ (.int .i64 z)) W.heap.size 0 (.int .i64 ((Hd.mk z hV.m hV.e hV.t hV.na hV.nc hV.ns)).k) (.int .i64 ((Hd.mk z hV.m hV.e hV.t hV.na hV.nc hV.ns)).m) (.int .i64 ((Hd.mk z hV.m hV.e hV.t hV.na hV.nc hV.ns)).e) (.string ((Hd.mk z hV.m hV.e hV.t hV.na hV.nc hV.ns)).t) (.slice av (F).len c) (.slice ((Hd.mk z hV.m hV.e hV.t hV.na hV.nc hV.ns)).na ((Hd.mk z hV.m hV.e hV.t hV.na hV.nc hV.ns)).ns.length ((Hd.mk z hV.m hV.e hV.t hV.na hV.nc hV.ns)).nc)) ∧ Otb b W (put6 (w5.setCell ⟨vb, 0, none⟩ (.int .i64 z)) W.heap.size 0 (.int .i64 ((Hd.mk z hV.m hV.e hV.t hV.na hV.nc hV.ns)).k) (.int .i64 ((Hd.mk z hV.m hV.e hV.t hV.na hV.nc hV.ns)).m) (.int .i64 ((Hd.mk z hV.m hV.e hV.t hV.na hV.nc hV.ns)).e) (.string ((Hd.mk z hV.m hV.e hV.t hV.na hV.nc hV.ns)).t) (.slice av (F).len c) (.slice ((Hd.mk z hV.m hV.e hV.t hV.na hV.nc hV.ns)).na ((Hd.mk z hV.m hV.e hV.t hV.na hV.nc hV.ns)).ns.length ((Hd.mk z hV.m hV.e hV.t hV.na hV.nc hV.ns)).nc))) := ⟨S10, R10, O10⟩
    clear Z9 S9 R9 O9 HO6 S10 R10 O10
    go_wp2_with fail
    show bodyPost Try.prog Try.f22 _ Exit.ret _ (put6 (w5.setCell ⟨vb, 0, none⟩ (.int .i64 z)) W.heap.size 0 (.int .i64 ((Hd.mk z hV.m hV.e hV.t hV.na hV.nc hV.ns)).k) (.int .i64 ((Hd.mk z hV.m hV.e hV.t hV.na hV.nc hV.ns)).m) (.int .i64 ((Hd.mk z hV.m hV.e hV.t hV.na hV.nc hV.ns)).e) (.string ((Hd.mk z hV.m hV.e hV.t hV.na hV.nc hV.ns)).t) (.slice av (F).len c) (.slice ((Hd.mk z hV.m hV.e hV.t hV.na hV.nc hV.ns)).na ((Hd.mk z hV.m hV.e hV.t hV.na hV.nc hV.ns)).ns.length ((Hd.mk z hV.m hV.e hV.t hV.na hV.nc hV.ns)).nc))
    generalize put6 (w5.setCell ⟨vb, 0, none⟩ (.int .i64 z)) W.heap.size 0 (.int .i64 ((Hd.mk z hV.m hV.e hV.t hV.na hV.nc hV.ns)).k) (.int .i64 ((Hd.mk z hV.m hV.e hV.t hV.na hV.nc hV.ns)).m) (.int .i64 ((Hd.mk z hV.m hV.e hV.t hV.na hV.nc hV.ns)).e) (.string ((Hd.mk z hV.m hV.e hV.t hV.na hV.nc hV.ns)).t) (.slice av (F).len c) (.slice ((Hd.mk z hV.m hV.e hV.t hV.na hV.nc hV.ns)).na ((Hd.mk z hV.m hV.e hV.t hV.na hV.nc hV.ns)).ns.length ((Hd.mk z hV.m hV.e hV.t hV.na hV.nc hV.ns)).nc) = W6 at *
    have y0 := (HP6 0 _ rfl).1
    have y1 := (HP6 1 _ rfl).1
    have y2 := (HP6 2 _ rfl).1
    have y3 := (HP6 3 _ rfl).1
    have y4 := (HP6 4 _ rfl).1
    have y5 := (HP6 5 _ rfl).1
    obtain ⟨z1, z2, z3⟩ := HS10.out
    refine bodyPost_ret (v := valV ((Hd.mk z hV.m hV.e hV.t hV.na hV.nc hV.ns)) av (F).len c) (by simp [results, Try.results22, go_sem, y0, y1, y2, y3, y4, y5]) rfl (by first | exact ⟨(Hd.mk z hV.m hV.e hV.t hV.na hV.nc hV.ns), F, av, c, _, rfl, z1, by omega, z2, z3⟩ | exact ⟨(Hd.mk z hV.m hV.e hV.t hV.na hV.nc hV.ns), F, av, c, rfl, z1, _, by omega, z2, z3⟩)
  · obtain ⟨i0, hi, hy0, hy1, hy2⟩ := info_parts textInfo
    obtain ⟨t0, f0⟩ := V4 0 _ rfl
    obtain ⟨t1, f1⟩ := V4 1 _ rfl
    obtain ⟨t2, f2⟩ := V4 2 _ rfl
    obtain ⟨t3, f3⟩ := V4 3 _ rfl
    obtain ⟨t4, f4⟩ := V4 4 _ rfl
    obtain ⟨t5, f5⟩ := V4 5 _ rfl
    have hnl : hV.ns.length ≤ 3 := S4.1.2.1
    have hown := S4.2.2.1
    have hWw : W.heap.size + 1 ≤ w4.heap.size := by have := HZ2.out; omega
    go_wp2_with (
    at_builtin
    refine wpList_append_lies _ rfl _ _ 26 rfl (W.heap.size + 1) 9 i0 (.string ⟨#[]⟩) 1 16 Try.underlying26 hi hy0 hy1 hy2 rfl (by decide) (.slice hV.na hV.ns.length hV.nc) hV.ns.length (texts hV.ns) rfl (hown.alloc _) ⟨w4.heap.size, 0, none⟩ 1 1 [.string ⟨#[97]⟩] rfl rfl (cell_one_new _ _ _) (fun x hx => by simp at hx; subst hx; rfl) (by omega) (by unfold maxLen; omega) (by omega) (by simp; omega) _ rfl ?_
    intro g cc w5 hown5 hgr5 hat5 hlt5
    rw [ownBlock_blkOf] at hgr5 hat5
    have O45 : Otr b (blkOf hV.na) w4 w5 := ((Otr.refl b _ w4).below ((Below.refl _ _).alloc (Nat.le_refl _) _)).grown hgr5
    have hnvb2 : some vb ≠ blkOf hV.na := fun e => by have := (HNv.out vb e.symm).2; omega
    have hnrb2 : some W.heap.size ≠ blkOf hV.na := fun e => by have := (HNv.out _ e.symm).1; omega
    have V5 := O45.row hvb2 hnvb2 V4
    have Z5 := O45.row hne hnrb2 Z4
    have hown6 : w5.ownsRow (W.heap.size + 1) 9 1 (.slice (some ⟨g, 0, none⟩) (hV.ns.length + 1) cc) (hV.ns.length + 1) (texts (hV.ns ++ [⟨#[97]⟩])) := by unfold texts; rw [List.map_append]; exact hown5
    have hob5 : blkOf (some (⟨g, 0, none⟩ : Addr)) = blkOf hV.na ∨ ∃ g', blkOf (some (⟨g, 0, none⟩ : Addr)) = some g' ∧ vb < g' := by
      rcases hat5 with e | e
      · exact .inl e.symm
      · exact .inr ⟨g, rfl, by simp at e; omega⟩
    obtain ⟨S5, hF5⟩ := S4.name (b := b) (vb := vb) hbB HFar.out hob5 (fun x hx => by have := (HNv.out x hx).2; omega) (Nat.le_refl _) (by decide) O45 hown6
    have R5 : Rd w0 B b a len cap (p2 + 1) w5 := R4.uptoU (B' := W.heap.size) ((((Below.refl _ w4).alloc (by omega) _)).grown hgr5 (by simp; omega) (fun k hk => by have := (HNv.out k hk).1; omega)) hlt (by have := R4.base_leU; omega)
    have O5 : Otb b W w5 := ⟨Nat.le_trans O4.1 O45.1, fun x h1 h2 => (O45.2 x (Nat.lt_of_lt_of_le h1 O4.1) h2 (fun e => by have := (HNv.out x e.symm).1; omega)).trans (O4.2 x h1 h2)⟩
    obtain ⟨u5, e5⟩ := V5 5 _ rfl
    obtain ⟨u0, _⟩ := V5 0 _ rfl
    obtain ⟨u1, _⟩ := V5 1 _ rfl
    obtain ⟨u2, _⟩ := V5 2 _ rfl
    obtain ⟨u3, _⟩ := V5 3 _ rfl
    obtain ⟨u4, _⟩ := V5 4 _ rfl
    have Z9 := Z5.setOther (j := vb) (by have := HZ2.out; omega) 5 (.slice (some ⟨g, 0, none⟩) (hV.ns.length + 1) cc)
    have R9 := R5.set (j := vb) (o := 5) (by have := HZ2.out; have := R4.base_leU; omega) (by omega) (.slice (some ⟨g, 0, none⟩) (hV.ns.length + 1) cc)
    have O9 := O5.set (j := vb) (o := 5) (by have := HZ2.out; omega) (.slice (some ⟨g, 0, none⟩) (hV.ns.length + 1) cc)
    have S9 := S5.put (o := 5) hbB hF5 (.slice (some ⟨g, 0, none⟩) (hV.ns.length + 1) cc)
    have hlen : (hV.ns ++ [(⟨#[97]⟩ : ByteArray)]).length = hV.ns.length + 1 := by simp
    clear V5 Z5 O5 R5 S5 hown6 hown5 hgr5 hat5 hob5 V4 Z4 O4 R4 S4 O45 hnvb2 hnrb2 t0 t1 t2 t3 t4 t5 f0 f1 f2 f3 f4 f5 hown hF5
    obtain ⟨r0, g0⟩ := Z9 0 _ rfl
    obtain ⟨r1, g1⟩ := Z9 1 _ rfl
    obtain ⟨r2, g2⟩ := Z9 2 _ rfl
    obtain ⟨r3, g3⟩ := Z9 3 _ rfl
    obtain ⟨r4, g4⟩ := Z9 4 _ rfl
    obtain ⟨r5, g5⟩ := Z9 5 _ rfl
    have HP6 := Row.put6 (v0 := .int .i64 ((Hd.mk hV.k hV.m hV.e hV.t (some ⟨g, 0, none⟩) cc (hV.ns ++ [⟨#[97]⟩]))).k) (v1 := .int .i64 ((Hd.mk hV.k hV.m hV.e hV.t (some ⟨g, 0, none⟩) cc (hV.ns ++ [⟨#[97]⟩]))).m) (v2 := .int .i64 ((Hd.mk hV.k hV.m hV.e hV.t (some ⟨g, 0, none⟩) cc (hV.ns ++ [⟨#[97]⟩]))).e) (v3 := .string ((Hd.mk hV.k hV.m hV.e hV.t (some ⟨g, 0, none⟩) cc (hV.ns ++ [⟨#[97]⟩]))).t) (v4 := .slice av (F).len c) (v5 := .slice ((Hd.mk hV.k hV.m hV.e hV.t (some ⟨g, 0, none⟩) cc (hV.ns ++ [⟨#[97]⟩]))).na (hV.ns.length + 1) ((Hd.mk hV.k hV.m hV.e hV.t (some ⟨g, 0, none⟩) cc (hV.ns ++ [⟨#[97]⟩]))).nc) Z9
    have HO6 := Otr.put6 b (j := W.heap.size) (o := 0) (w5.setCell ⟨vb, 5, none⟩ (.slice (some ⟨g, 0, none⟩) (hV.ns.length + 1) cc)) (.int .i64 ((Hd.mk hV.k hV.m hV.e hV.t (some ⟨g, 0, none⟩) cc (hV.ns ++ [⟨#[97]⟩]))).k) (.int .i64 ((Hd.mk hV.k hV.m hV.e hV.t (some ⟨g, 0, none⟩) cc (hV.ns ++ [⟨#[97]⟩]))).m) (.int .i64 ((Hd.mk hV.k hV.m hV.e hV.t (some ⟨g, 0, none⟩) cc (hV.ns ++ [⟨#[97]⟩]))).e) (.string ((Hd.mk hV.k hV.m hV.e hV.t (some ⟨g, 0, none⟩) cc (hV.ns ++ [⟨#[97]⟩]))).t) (.slice av (F).len c) (.slice ((Hd.mk hV.k hV.m hV.e hV.t (some ⟨g, 0, none⟩) cc (hV.ns ++ [⟨#[97]⟩]))).na (hV.ns.length + 1) ((Hd.mk hV.k hV.m hV.e hV.t (some ⟨g, 0, none⟩) cc (hV.ns ++ [⟨#[97]⟩]))).nc)
    have hb9 := R9.base_leU
    have S10 := (S9.otr HO6 hbB (fun g hg => by cases hg; omega)).mono (B1 := W.heap.size) (M' := 60) (by omega) (by omega)
    have R10 := R9.uptoU (put6_below (B := W.heap.size) (nb := W.heap.size) (o := 0) (Below.refl _ (w5.setCell ⟨vb, 5, none⟩ (.slice (some ⟨g, 0, none⟩) (hV.ns.length + 1) cc))) (Nat.le_refl _) (.int .i64 ((Hd.mk hV.k hV.m hV.e hV.t (some ⟨g, 0, none⟩) cc (hV.ns ++ [⟨#[97]⟩]))).k) (.int .i64 ((Hd.mk hV.k hV.m hV.e hV.t (some ⟨g, 0, none⟩) cc (hV.ns ++ [⟨#[97]⟩]))).m) (.int .i64 ((Hd.mk hV.k hV.m hV.e hV.t (some ⟨g, 0, none⟩) cc (hV.ns ++ [⟨#[97]⟩]))).e) (.string ((Hd.mk hV.k hV.m hV.e hV.t (some ⟨g, 0, none⟩) cc (hV.ns ++ [⟨#[97]⟩]))).t) (.slice av (F).len c) (.slice ((Hd.mk hV.k hV.m hV.e hV.t (some ⟨g, 0, none⟩) cc (hV.ns ++ [⟨#[97]⟩]))).na (hV.ns.length + 1) ((Hd.mk hV.k hV.m hV.e hV.t (some ⟨g, 0, none⟩) cc (hV.ns ++ [⟨#[97]⟩]))).nc)) hlt (by omega)
    have O10 := O9.upto (put6_below (B := W.heap.size) (nb := W.heap.size) (o := 0) (Below.refl _ (w5.setCell ⟨vb, 5, none⟩ (.slice (some ⟨g, 0, none⟩) (hV.ns.length + 1) cc))) (Nat.le_refl _) (.int .i64 ((Hd.mk hV.k hV.m hV.e hV.t (some ⟨g, 0, none⟩) cc (hV.ns ++ [⟨#[97]⟩]))).k) (.int .i64 ((Hd.mk hV.k hV.m hV.e hV.t (some ⟨g, 0, none⟩) cc (hV.ns ++ [⟨#[97]⟩]))).m) (.int .i64 ((Hd.mk hV.k hV.m hV.e hV.t (some ⟨g, 0, none⟩) cc (hV.ns ++ [⟨#[97]⟩]))).e) (.string ((Hd.mk hV.k hV.m hV.e hV.t (some ⟨g, 0, none⟩) cc (hV.ns ++ [⟨#[97]⟩]))).t) (.slice av (F).len c) (.slice ((Hd.mk hV.k hV.m hV.e hV.t (some ⟨g, 0, none⟩) cc (hV.ns ++ [⟨#[97]⟩]))).na (hV.ns.length + 1) ((Hd.mk hV.k hV.m hV.e hV.t (some ⟨g, 0, none⟩) cc (hV.ns ++ [⟨#[97]⟩]))).nc))
    have HS10 : Hid (AnyS W.heap.size 60 (put6 (w5.setCell ⟨vb, 5, none⟩ (.slice (some ⟨g, 0, none⟩) (hV.ns.length + 1) cc)) W.heap.size 0 (.int .i64 ((Hd.mk hV.k hV.m hV.e hV.t (some ⟨g, 0, none⟩) cc (hV.ns ++ [⟨#[97]⟩]))).k) (.int .i64 ((Hd.mk hV.k hV.m hV.e hV.t (some ⟨g, 0, none⟩) cc (hV.ns ++ [⟨#[97]⟩]))).m) (.int .i64 ((Hd.mk hV.k hV.m hV.e hV.t (some ⟨g, 0, none⟩) cc (hV.ns ++ [⟨#[97]⟩]))).e) (.string ((Hd.mk hV.k hV.m hV.e hV.t (some ⟨g, 0, none⟩) cc (hV.ns ++ [⟨#[97]⟩]))).t) (.slice av (F).len c) (.slice ((Hd.mk hV.k hV.m hV.e hV.t (some ⟨g, 0, none⟩) cc (hV.ns ++ [⟨#[97]⟩]))).na (hV.ns.length + 1) ((Hd.mk hV.k hV.m hV.e hV.t (some ⟨g, 0, none⟩) cc (hV.ns ++ [⟨#[97]⟩]))).nc)) ((Hd.mk hV.k hV.m hV.e hV.t (some ⟨g, 0, none⟩) cc (hV.ns ++ [⟨#[97]⟩]))) av c F ∧ Rd w0 B b a len cap _ (put6 (w5.setCell ⟨vb, 5, none⟩ (.slice (some ⟨g, 0, none⟩) (hV.ns.length + 1) cc)) W.heap.size 0 (.int .i64 ((Hd.mk hV.k hV.m hV.e hV.t (some ⟨g, 0, none⟩) cc (hV.ns ++ [⟨#[97]⟩]))).k) (.int .i64 ((Hd.mk hV.k hV.m hV.e hV.t (some ⟨g, 0, none⟩) cc (hV.ns ++ [⟨#[97]⟩]))).m) (.int .i64 ((Hd.mk hV.k hV.m hV.e hV.t (some ⟨g, 0, none⟩) cc (hV.ns ++ [⟨#[97]⟩]))).e) (.string ((Hd.mk hV.k hV.m hV.e hV.t (some ⟨g, 0, none⟩) cc (hV.ns ++ [⟨#[97]⟩]))).t) (.slice av (F).len c) (.slice ((Hd.mk hV.k hV.m hV.e hV.t (some ⟨g, 0, none⟩) cc (hV.ns ++ [⟨#[97]⟩]))).na (hV.ns.length + 1) ((Hd.mk hV.k hV.m hV.e hV.t (some ⟨g, 0, none⟩) cc (hV.ns ++ [⟨#[97]⟩]))).nc)) ∧ Otb b W (put6 (w5.setCell ⟨vb, 5, none⟩ (.slice (some ⟨g, 0, none⟩) (hV.ns.length + 1) cc)) W.heap.size 0 (.int .i64 ((Hd.mk hV.k hV.m hV.e hV.t (some ⟨g, 0, none⟩) cc (hV.ns ++ [⟨#[97]⟩]))).k) (.int .i64 ((Hd.mk hV.k hV.m hV.e hV.t (some ⟨g, 0, none⟩) cc (hV.ns ++ [⟨#[97]⟩]))).m) (.int .i64 ((Hd.mk hV.k hV.m hV.e hV.t (some ⟨g, 0, none⟩) cc (hV.ns ++ [⟨#[97]⟩]))).e) (.string ((Hd.mk hV.k hV.m hV.e hV.t (some ⟨g, 0, none⟩) cc (hV.ns ++ [⟨#[97]⟩]))).t) (.slice av (F).len c) (.slice ((Hd.mk hV.k hV.m hV.e hV.t (some ⟨g, 0, none⟩) cc (hV.ns ++ [⟨#[97]⟩]))).na (hV.ns.length + 1) ((Hd.mk hV.k hV.m hV.e hV.t (some ⟨g, 0, none⟩) cc (hV.ns ++ [⟨#[97]⟩]))).nc))) := ⟨S10, R10, O10⟩
    clear Z9 S9 R9 O9 HO6 S10 R10 O10
    )
    show bodyPost Try.prog Try.f22 _ Exit.ret _ (put6 (w5.setCell ⟨vb, 5, none⟩ (.slice (some ⟨g, 0, none⟩) (hV.ns.length + 1) cc)) W.heap.size 0 (.int .i64 ((Hd.mk hV.k hV.m hV.e hV.t (some ⟨g, 0, none⟩) cc (hV.ns ++ [⟨#[97]⟩]))).k) (.int .i64 ((Hd.mk hV.k hV.m hV.e hV.t (some ⟨g, 0, none⟩) cc (hV.ns ++ [⟨#[97]⟩]))).m) (.int .i64 ((Hd.mk hV.k hV.m hV.e hV.t (some ⟨g, 0, none⟩) cc (hV.ns ++ [⟨#[97]⟩]))).e) (.string ((Hd.mk hV.k hV.m hV.e hV.t (some ⟨g, 0, none⟩) cc (hV.ns ++ [⟨#[97]⟩]))).t) (.slice av (F).len c) (.slice ((Hd.mk hV.k hV.m hV.e hV.t (some ⟨g, 0, none⟩) cc (hV.ns ++ [⟨#[97]⟩]))).na (hV.ns.length + 1) ((Hd.mk hV.k hV.m hV.e hV.t (some ⟨g, 0, none⟩) cc (hV.ns ++ [⟨#[97]⟩]))).nc))
    generalize put6 (w5.setCell ⟨vb, 5, none⟩ (.slice (some ⟨g, 0, none⟩) (hV.ns.length + 1) cc)) W.heap.size 0 (.int .i64 ((Hd.mk hV.k hV.m hV.e hV.t (some ⟨g, 0, none⟩) cc (hV.ns ++ [⟨#[97]⟩]))).k) (.int .i64 ((Hd.mk hV.k hV.m hV.e hV.t (some ⟨g, 0, none⟩) cc (hV.ns ++ [⟨#[97]⟩]))).m) (.int .i64 ((Hd.mk hV.k hV.m hV.e hV.t (some ⟨g, 0, none⟩) cc (hV.ns ++ [⟨#[97]⟩]))).e) (.string ((Hd.mk hV.k hV.m hV.e hV.t (some ⟨g, 0, none⟩) cc (hV.ns ++ [⟨#[97]⟩]))).t) (.slice av (F).len c) (.slice ((Hd.mk hV.k hV.m hV.e hV.t (some ⟨g, 0, none⟩) cc (hV.ns ++ [⟨#[97]⟩]))).na (hV.ns.length + 1) ((Hd.mk hV.k hV.m hV.e hV.t (some ⟨g, 0, none⟩) cc (hV.ns ++ [⟨#[97]⟩]))).nc) = W6 at *
    have y0 := (HP6 0 _ rfl).1
    have y1 := (HP6 1 _ rfl).1
    have y2 := (HP6 2 _ rfl).1
    have y3 := (HP6 3 _ rfl).1
    have y4 := (HP6 4 _ rfl).1
    have y5 := (HP6 5 _ rfl).1
    obtain ⟨z1, z2, z3⟩ := HS10.out
    refine bodyPost_ret (v := valV ((Hd.mk hV.k hV.m hV.e hV.t (some ⟨g, 0, none⟩) cc (hV.ns ++ [⟨#[97]⟩]))) av (F).len c) (by simp [results, Try.results22, go_sem, y0, y1, y2, y3, y4, y5]) rfl (by first | exact ⟨(Hd.mk hV.k hV.m hV.e hV.t (some ⟨g, 0, none⟩) cc (hV.ns ++ [⟨#[97]⟩])), F, av, c, _, rfl, z1, by omega, z2, z3⟩ | exact ⟨(Hd.mk hV.k hV.m hV.e hV.t (some ⟨g, 0, none⟩) cc (hV.ns ++ [⟨#[97]⟩])), F, av, c, rfl, z1, _, by omega, z2, z3⟩)
  · skip
    obtain ⟨t0, f0⟩ := V4 0 _ rfl
    obtain ⟨t1, f1⟩ := V4 1 _ rfl
    obtain ⟨t2, f2⟩ := V4 2 _ rfl
    obtain ⟨t3, f3⟩ := V4 3 _ rfl
    obtain ⟨t4, f4⟩ := V4 4 _ rfl
    obtain ⟨t5, f5⟩ := V4 5 _ rfl
    have Z9 := ((Z4).setOther (j := vb) (by have := HZ2.out; omega) 1 (.int .i64 10)).setOther (j := vb) (by have := HZ2.out; omega) 2 (.int .i64 0)
    have R9 := ((R4).set (j := vb) (o := 1) (by have := HZ2.out; have := R4.base_leU; omega) (by omega) (.int .i64 10)).set (j := vb) (o := 2) (by have := HZ2.out; have := R4.base_leU; omega) (by omega) (.int .i64 0)
    have O9 := ((O4).set (j := vb) (o := 1) (by have := HZ2.out; omega) (.int .i64 10)).set (j := vb) (o := 2) (by have := HZ2.out; omega) (.int .i64 0)
    have S9 := (((S4.any (by omega)).put (o := 1) hbB HFn.out (.int .i64 10)).put (o := 2) hbB HFn.out (.int .i64 0)).head hV.k 10 0 hV.t S4.1.2.2.1
    clear V4 Z4 O4 S4 R4
    obtain ⟨r0, g0⟩ := Z9 0 _ rfl
    obtain ⟨r1, g1⟩ := Z9 1 _ rfl
    obtain ⟨r2, g2⟩ := Z9 2 _ rfl
    obtain ⟨r3, g3⟩ := Z9 3 _ rfl
    obtain ⟨r4, g4⟩ := Z9 4 _ rfl
    obtain ⟨r5, g5⟩ := Z9 5 _ rfl
    have HP6 := Row.put6 (v0 := .int .i64 ((Hd.mk hV.k 10 0 hV.t hV.na hV.nc hV.ns)).k) (v1 := .int .i64 ((Hd.mk hV.k 10 0 hV.t hV.na hV.nc hV.ns)).m) (v2 := .int .i64 ((Hd.mk hV.k 10 0 hV.t hV.na hV.nc hV.ns)).e) (v3 := .string ((Hd.mk hV.k 10 0 hV.t hV.na hV.nc hV.ns)).t) (v4 := .slice av (F).len c) (v5 := .slice ((Hd.mk hV.k 10 0 hV.t hV.na hV.nc hV.ns)).na ((Hd.mk hV.k 10 0 hV.t hV.na hV.nc hV.ns)).ns.length ((Hd.mk hV.k 10 0 hV.t hV.na hV.nc hV.ns)).nc) Z9
    have HO6 := Otr.put6 b (j := W.heap.size) (o := 0) ((w4.setCell ⟨vb, 1, none⟩ (.int .i64 10)).setCell ⟨vb, 2, none⟩ (.int .i64 0)) (.int .i64 ((Hd.mk hV.k 10 0 hV.t hV.na hV.nc hV.ns)).k) (.int .i64 ((Hd.mk hV.k 10 0 hV.t hV.na hV.nc hV.ns)).m) (.int .i64 ((Hd.mk hV.k 10 0 hV.t hV.na hV.nc hV.ns)).e) (.string ((Hd.mk hV.k 10 0 hV.t hV.na hV.nc hV.ns)).t) (.slice av (F).len c) (.slice ((Hd.mk hV.k 10 0 hV.t hV.na hV.nc hV.ns)).na ((Hd.mk hV.k 10 0 hV.t hV.na hV.nc hV.ns)).ns.length ((Hd.mk hV.k 10 0 hV.t hV.na hV.nc hV.ns)).nc)
    have hb9 := R9.base_leU
    have S10 := (S9.otr HO6 hbB (fun g hg => by cases hg; omega)).mono (B1 := W.heap.size) (M' := 60) (by omega) (by omega)
    have R10 := R9.uptoU (put6_below (B := W.heap.size) (nb := W.heap.size) (o := 0) (Below.refl _ ((w4.setCell ⟨vb, 1, none⟩ (.int .i64 10)).setCell ⟨vb, 2, none⟩ (.int .i64 0))) (Nat.le_refl _) (.int .i64 ((Hd.mk hV.k 10 0 hV.t hV.na hV.nc hV.ns)).k) (.int .i64 ((Hd.mk hV.k 10 0 hV.t hV.na hV.nc hV.ns)).m) (.int .i64 ((Hd.mk hV.k 10 0 hV.t hV.na hV.nc hV.ns)).e) (.string ((Hd.mk hV.k 10 0 hV.t hV.na hV.nc hV.ns)).t) (.slice av (F).len c) (.slice ((Hd.mk hV.k 10 0 hV.t hV.na hV.nc hV.ns)).na ((Hd.mk hV.k 10 0 hV.t hV.na hV.nc hV.ns)).ns.length ((Hd.mk hV.k 10 0 hV.t hV.na hV.nc hV.ns)).nc)) hlt (by omega)
    have O10 := O9.upto (put6_below (B := W.heap.size) (nb := W.heap.size) (o := 0) (Below.refl _ ((w4.setCell ⟨vb, 1, none⟩ (.int .i64 10)).setCell ⟨vb, 2, none⟩ (.int .i64 0))) (Nat.le_refl _) (.int .i64 ((Hd.mk hV.k 10 0 hV.t hV.na hV.nc hV.ns)).k) (.int .i64 ((Hd.mk hV.k 10 0 hV.t hV.na hV.nc hV.ns)).m) (.int .i64 ((Hd.mk hV.k 10 0 hV.t hV.na hV.nc hV.ns)).e) (.string ((Hd.mk hV.k 10 0 hV.t hV.na hV.nc hV.ns)).t) (.slice av (F).len c) (.slice ((Hd.mk hV.k 10 0 hV.t hV.na hV.nc hV.ns)).na ((Hd.mk hV.k 10 0 hV.t hV.na hV.nc hV.ns)).ns.length ((Hd.mk hV.k 10 0 hV.t hV.na hV.nc hV.ns)).nc))
    have HS10 : Hid (AnyS W.heap.size 60 (put6 ((w4.setCell ⟨vb, 1, none⟩ (.int .i64 10)).setCell ⟨vb, 2, none⟩ (.int .i64 0)) W.heap.size 0 (.int .i64 ((Hd.mk hV.k 10 0 hV.t hV.na hV.nc hV.ns)).k) (.int .i64 ((Hd.mk hV.k 10 0 hV.t hV.na hV.nc hV.ns)).m) (.int .i64 ((Hd.mk hV.k 10 0 hV.t hV.na hV.nc hV.ns)).e) (.string ((Hd.mk hV.k 10 0 hV.t hV.na hV.nc hV.ns)).t) (.slice av (F).len c) (.slice ((Hd.mk hV.k 10 0 hV.t hV.na hV.nc hV.ns)).na ((Hd.mk hV.k 10 0 hV.t hV.na hV.nc hV.ns)).ns.length ((Hd.mk hV.k 10 0 hV.t hV.na hV.nc hV.ns)).nc)) ((Hd.mk hV.k 10 0 hV.t hV.na hV.nc hV.ns)) av c F ∧ Rd w0 B b a len cap _ (put6 ((w4.setCell ⟨vb, 1, none⟩ (.int .i64 10)).setCell ⟨vb, 2, none⟩ (.int .i64 0)) W.heap.size 0 (.int .i64 ((Hd.mk hV.k 10 0 hV.t hV.na hV.nc hV.ns)).k) (.int .i64 ((Hd.mk hV.k 10 0 hV.t hV.na hV.nc hV.ns)).m) (.int .i64 ((Hd.mk hV.k 10 0 hV.t hV.na hV.nc hV.ns)).e) (.string ((Hd.mk hV.k 10 0 hV.t hV.na hV.nc hV.ns)).t) (.slice av (F).len c) (.slice ((Hd.mk hV.k 10 0 hV.t hV.na hV.nc hV.ns)).na ((Hd.mk hV.k 10 0 hV.t hV.na hV.nc hV.ns)).ns.length ((Hd.mk hV.k 10 0 hV.t hV.na hV.nc hV.ns)).nc)) ∧ Otb b W (put6 ((w4.setCell ⟨vb, 1, none⟩ (.int .i64 10)).setCell ⟨vb, 2, none⟩ (.int .i64 0)) W.heap.size 0 (.int .i64 ((Hd.mk hV.k 10 0 hV.t hV.na hV.nc hV.ns)).k) (.int .i64 ((Hd.mk hV.k 10 0 hV.t hV.na hV.nc hV.ns)).m) (.int .i64 ((Hd.mk hV.k 10 0 hV.t hV.na hV.nc hV.ns)).e) (.string ((Hd.mk hV.k 10 0 hV.t hV.na hV.nc hV.ns)).t) (.slice av (F).len c) (.slice ((Hd.mk hV.k 10 0 hV.t hV.na hV.nc hV.ns)).na ((Hd.mk hV.k 10 0 hV.t hV.na hV.nc hV.ns)).ns.length ((Hd.mk hV.k 10 0 hV.t hV.na hV.nc hV.ns)).nc))) := ⟨S10, R10, O10⟩
    clear Z9 S9 R9 O9 HO6 S10 R10 O10
    go_wp2_with fail
    show bodyPost Try.prog Try.f22 _ Exit.ret _ (put6 ((w4.setCell ⟨vb, 1, none⟩ (.int .i64 10)).setCell ⟨vb, 2, none⟩ (.int .i64 0)) W.heap.size 0 (.int .i64 ((Hd.mk hV.k 10 0 hV.t hV.na hV.nc hV.ns)).k) (.int .i64 ((Hd.mk hV.k 10 0 hV.t hV.na hV.nc hV.ns)).m) (.int .i64 ((Hd.mk hV.k 10 0 hV.t hV.na hV.nc hV.ns)).e) (.string ((Hd.mk hV.k 10 0 hV.t hV.na hV.nc hV.ns)).t) (.slice av (F).len c) (.slice ((Hd.mk hV.k 10 0 hV.t hV.na hV.nc hV.ns)).na ((Hd.mk hV.k 10 0 hV.t hV.na hV.nc hV.ns)).ns.length ((Hd.mk hV.k 10 0 hV.t hV.na hV.nc hV.ns)).nc))
    generalize put6 ((w4.setCell ⟨vb, 1, none⟩ (.int .i64 10)).setCell ⟨vb, 2, none⟩ (.int .i64 0)) W.heap.size 0 (.int .i64 ((Hd.mk hV.k 10 0 hV.t hV.na hV.nc hV.ns)).k) (.int .i64 ((Hd.mk hV.k 10 0 hV.t hV.na hV.nc hV.ns)).m) (.int .i64 ((Hd.mk hV.k 10 0 hV.t hV.na hV.nc hV.ns)).e) (.string ((Hd.mk hV.k 10 0 hV.t hV.na hV.nc hV.ns)).t) (.slice av (F).len c) (.slice ((Hd.mk hV.k 10 0 hV.t hV.na hV.nc hV.ns)).na ((Hd.mk hV.k 10 0 hV.t hV.na hV.nc hV.ns)).ns.length ((Hd.mk hV.k 10 0 hV.t hV.na hV.nc hV.ns)).nc) = W6 at *
    have y0 := (HP6 0 _ rfl).1
    have y1 := (HP6 1 _ rfl).1
    have y2 := (HP6 2 _ rfl).1
    have y3 := (HP6 3 _ rfl).1
    have y4 := (HP6 4 _ rfl).1
    have y5 := (HP6 5 _ rfl).1
    obtain ⟨z1, z2, z3⟩ := HS10.out
    refine bodyPost_ret (v := valV ((Hd.mk hV.k 10 0 hV.t hV.na hV.nc hV.ns)) av (F).len c) (by simp [results, Try.results22, go_sem, y0, y1, y2, y3, y4, y5]) rfl (by first | exact ⟨(Hd.mk hV.k 10 0 hV.t hV.na hV.nc hV.ns), F, av, c, _, rfl, z1, by omega, z2, z3⟩ | exact ⟨(Hd.mk hV.k 10 0 hV.t hV.na hV.nc hV.ns), F, av, c, rfl, z1, _, by omega, z2, z3⟩)
  · skip
    obtain ⟨t0, f0⟩ := V4 0 _ rfl
    obtain ⟨t1, f1⟩ := V4 1 _ rfl
    obtain ⟨t2, f2⟩ := V4 2 _ rfl
    obtain ⟨t3, f3⟩ := V4 3 _ rfl
    obtain ⟨t4, f4⟩ := V4 4 _ rfl
    obtain ⟨t5, f5⟩ := V4 5 _ rfl
    have Z9 := (Z4).setOther (j := vb) (by have := HZ2.out; omega) 3 (.string ⟨#[120]⟩)
    have R9 := (R4).set (j := vb) (o := 3) (by have := HZ2.out; have := R4.base_leU; omega) (by omega) (.string ⟨#[120]⟩)
    have O9 := (O4).set (j := vb) (o := 3) (by have := HZ2.out; omega) (.string ⟨#[120]⟩)
    have S9 := ((S4.any (by omega)).put (o := 3) hbB HFn.out (.string ⟨#[120]⟩)).head hV.k hV.m hV.e ⟨#[120]⟩ (by decide)
    clear V4 Z4 O4 S4 R4
    obtain ⟨r0, g0⟩ := Z9 0 _ rfl
    obtain ⟨r1, g1⟩ := Z9 1 _ rfl
    obtain ⟨r2, g2⟩ := Z9 2 _ rfl
    obtain ⟨r3, g3⟩ := Z9 3 _ rfl
    obtain ⟨r4, g4⟩ := Z9 4 _ rfl
    obtain ⟨r5, g5⟩ := Z9 5 _ rfl
    have HP6 := Row.put6 (v0 := .int .i64 ((Hd.mk hV.k hV.m hV.e ⟨#[120]⟩ hV.na hV.nc hV.ns)).k) (v1 := .int .i64 ((Hd.mk hV.k hV.m hV.e ⟨#[120]⟩ hV.na hV.nc hV.ns)).m) (v2 := .int .i64 ((Hd.mk hV.k hV.m hV.e ⟨#[120]⟩ hV.na hV.nc hV.ns)).e) (v3 := .string ((Hd.mk hV.k hV.m hV.e ⟨#[120]⟩ hV.na hV.nc hV.ns)).t) (v4 := .slice av (F).len c) (v5 := .slice ((Hd.mk hV.k hV.m hV.e ⟨#[120]⟩ hV.na hV.nc hV.ns)).na ((Hd.mk hV.k hV.m hV.e ⟨#[120]⟩ hV.na hV.nc hV.ns)).ns.length ((Hd.mk hV.k hV.m hV.e ⟨#[120]⟩ hV.na hV.nc hV.ns)).nc) Z9
    have HO6 := Otr.put6 b (j := W.heap.size) (o := 0) (w4.setCell ⟨vb, 3, none⟩ (.string ⟨#[120]⟩)) (.int .i64 ((Hd.mk hV.k hV.m hV.e ⟨#[120]⟩ hV.na hV.nc hV.ns)).k) (.int .i64 ((Hd.mk hV.k hV.m hV.e ⟨#[120]⟩ hV.na hV.nc hV.ns)).m) (.int .i64 ((Hd.mk hV.k hV.m hV.e ⟨#[120]⟩ hV.na hV.nc hV.ns)).e) (.string ((Hd.mk hV.k hV.m hV.e ⟨#[120]⟩ hV.na hV.nc hV.ns)).t) (.slice av (F).len c) (.slice ((Hd.mk hV.k hV.m hV.e ⟨#[120]⟩ hV.na hV.nc hV.ns)).na ((Hd.mk hV.k hV.m hV.e ⟨#[120]⟩ hV.na hV.nc hV.ns)).ns.length ((Hd.mk hV.k hV.m hV.e ⟨#[120]⟩ hV.na hV.nc hV.ns)).nc)
    have hb9 := R9.base_leU
    have S10 := (S9.otr HO6 hbB (fun g hg => by cases hg; omega)).mono (B1 := W.heap.size) (M' := 60) (by omega) (by omega)
    have R10 := R9.uptoU (put6_below (B := W.heap.size) (nb := W.heap.size) (o := 0) (Below.refl _ (w4.setCell ⟨vb, 3, none⟩ (.string ⟨#[120]⟩))) (Nat.le_refl _) (.int .i64 ((Hd.mk hV.k hV.m hV.e ⟨#[120]⟩ hV.na hV.nc hV.ns)).k) (.int .i64 ((Hd.mk hV.k hV.m hV.e ⟨#[120]⟩ hV.na hV.nc hV.ns)).m) (.int .i64 ((Hd.mk hV.k hV.m hV.e ⟨#[120]⟩ hV.na hV.nc hV.ns)).e) (.string ((Hd.mk hV.k hV.m hV.e ⟨#[120]⟩ hV.na hV.nc hV.ns)).t) (.slice av (F).len c) (.slice ((Hd.mk hV.k hV.m hV.e ⟨#[120]⟩ hV.na hV.nc hV.ns)).na ((Hd.mk hV.k hV.m hV.e ⟨#[120]⟩ hV.na hV.nc hV.ns)).ns.length ((Hd.mk hV.k hV.m hV.e ⟨#[120]⟩ hV.na hV.nc hV.ns)).nc)) hlt (by omega)
    have O10 := O9.upto (put6_below (B := W.heap.size) (nb := W.heap.size) (o := 0) (Below.refl _ (w4.setCell ⟨vb, 3, none⟩ (.string ⟨#[120]⟩))) (Nat.le_refl _) (.int .i64 ((Hd.mk hV.k hV.m hV.e ⟨#[120]⟩ hV.na hV.nc hV.ns)).k) (.int .i64 ((Hd.mk hV.k hV.m hV.e ⟨#[120]⟩ hV.na hV.nc hV.ns)).m) (.int .i64 ((Hd.mk hV.k hV.m hV.e ⟨#[120]⟩ hV.na hV.nc hV.ns)).e) (.string ((Hd.mk hV.k hV.m hV.e ⟨#[120]⟩ hV.na hV.nc hV.ns)).t) (.slice av (F).len c) (.slice ((Hd.mk hV.k hV.m hV.e ⟨#[120]⟩ hV.na hV.nc hV.ns)).na ((Hd.mk hV.k hV.m hV.e ⟨#[120]⟩ hV.na hV.nc hV.ns)).ns.length ((Hd.mk hV.k hV.m hV.e ⟨#[120]⟩ hV.na hV.nc hV.ns)).nc))
    have HS10 : Hid (AnyS W.heap.size 60 (put6 (w4.setCell ⟨vb, 3, none⟩ (.string ⟨#[120]⟩)) W.heap.size 0 (.int .i64 ((Hd.mk hV.k hV.m hV.e ⟨#[120]⟩ hV.na hV.nc hV.ns)).k) (.int .i64 ((Hd.mk hV.k hV.m hV.e ⟨#[120]⟩ hV.na hV.nc hV.ns)).m) (.int .i64 ((Hd.mk hV.k hV.m hV.e ⟨#[120]⟩ hV.na hV.nc hV.ns)).e) (.string ((Hd.mk hV.k hV.m hV.e ⟨#[120]⟩ hV.na hV.nc hV.ns)).t) (.slice av (F).len c) (.slice ((Hd.mk hV.k hV.m hV.e ⟨#[120]⟩ hV.na hV.nc hV.ns)).na ((Hd.mk hV.k hV.m hV.e ⟨#[120]⟩ hV.na hV.nc hV.ns)).ns.length ((Hd.mk hV.k hV.m hV.e ⟨#[120]⟩ hV.na hV.nc hV.ns)).nc)) ((Hd.mk hV.k hV.m hV.e ⟨#[120]⟩ hV.na hV.nc hV.ns)) av c F ∧ Rd w0 B b a len cap _ (put6 (w4.setCell ⟨vb, 3, none⟩ (.string ⟨#[120]⟩)) W.heap.size 0 (.int .i64 ((Hd.mk hV.k hV.m hV.e ⟨#[120]⟩ hV.na hV.nc hV.ns)).k) (.int .i64 ((Hd.mk hV.k hV.m hV.e ⟨#[120]⟩ hV.na hV.nc hV.ns)).m) (.int .i64 ((Hd.mk hV.k hV.m hV.e ⟨#[120]⟩ hV.na hV.nc hV.ns)).e) (.string ((Hd.mk hV.k hV.m hV.e ⟨#[120]⟩ hV.na hV.nc hV.ns)).t) (.slice av (F).len c) (.slice ((Hd.mk hV.k hV.m hV.e ⟨#[120]⟩ hV.na hV.nc hV.ns)).na ((Hd.mk hV.k hV.m hV.e ⟨#[120]⟩ hV.na hV.nc hV.ns)).ns.length ((Hd.mk hV.k hV.m hV.e ⟨#[120]⟩ hV.na hV.nc hV.ns)).nc)) ∧ Otb b W (put6 (w4.setCell ⟨vb, 3, none⟩ (.string ⟨#[120]⟩)) W.heap.size 0 (.int .i64 ((Hd.mk hV.k hV.m hV.e ⟨#[120]⟩ hV.na hV.nc hV.ns)).k) (.int .i64 ((Hd.mk hV.k hV.m hV.e ⟨#[120]⟩ hV.na hV.nc hV.ns)).m) (.int .i64 ((Hd.mk hV.k hV.m hV.e ⟨#[120]⟩ hV.na hV.nc hV.ns)).e) (.string ((Hd.mk hV.k hV.m hV.e ⟨#[120]⟩ hV.na hV.nc hV.ns)).t) (.slice av (F).len c) (.slice ((Hd.mk hV.k hV.m hV.e ⟨#[120]⟩ hV.na hV.nc hV.ns)).na ((Hd.mk hV.k hV.m hV.e ⟨#[120]⟩ hV.na hV.nc hV.ns)).ns.length ((Hd.mk hV.k hV.m hV.e ⟨#[120]⟩ hV.na hV.nc hV.ns)).nc))) := ⟨S10, R10, O10⟩
    clear Z9 S9 R9 O9 HO6 S10 R10 O10
    go_wp2_with fail
    show bodyPost Try.prog Try.f22 _ Exit.ret _ (put6 (w4.setCell ⟨vb, 3, none⟩ (.string ⟨#[120]⟩)) W.heap.size 0 (.int .i64 ((Hd.mk hV.k hV.m hV.e ⟨#[120]⟩ hV.na hV.nc hV.ns)).k) (.int .i64 ((Hd.mk hV.k hV.m hV.e ⟨#[120]⟩ hV.na hV.nc hV.ns)).m) (.int .i64 ((Hd.mk hV.k hV.m hV.e ⟨#[120]⟩ hV.na hV.nc hV.ns)).e) (.string ((Hd.mk hV.k hV.m hV.e ⟨#[120]⟩ hV.na hV.nc hV.ns)).t) (.slice av (F).len c) (.slice ((Hd.mk hV.k hV.m hV.e ⟨#[120]⟩ hV.na hV.nc hV.ns)).na ((Hd.mk hV.k hV.m hV.e ⟨#[120]⟩ hV.na hV.nc hV.ns)).ns.length ((Hd.mk hV.k hV.m hV.e ⟨#[120]⟩ hV.na hV.nc hV.ns)).nc))
    generalize put6 (w4.setCell ⟨vb, 3, none⟩ (.string ⟨#[120]⟩)) W.heap.size 0 (.int .i64 ((Hd.mk hV.k hV.m hV.e ⟨#[120]⟩ hV.na hV.nc hV.ns)).k) (.int .i64 ((Hd.mk hV.k hV.m hV.e ⟨#[120]⟩ hV.na hV.nc hV.ns)).m) (.int .i64 ((Hd.mk hV.k hV.m hV.e ⟨#[120]⟩ hV.na hV.nc hV.ns)).e) (.string ((Hd.mk hV.k hV.m hV.e ⟨#[120]⟩ hV.na hV.nc hV.ns)).t) (.slice av (F).len c) (.slice ((Hd.mk hV.k hV.m hV.e ⟨#[120]⟩ hV.na hV.nc hV.ns)).na ((Hd.mk hV.k hV.m hV.e ⟨#[120]⟩ hV.na hV.nc hV.ns)).ns.length ((Hd.mk hV.k hV.m hV.e ⟨#[120]⟩ hV.na hV.nc hV.ns)).nc) = W6 at *
    have y0 := (HP6 0 _ rfl).1
    have y1 := (HP6 1 _ rfl).1
    have y2 := (HP6 2 _ rfl).1
    have y3 := (HP6 3 _ rfl).1
    have y4 := (HP6 4 _ rfl).1
    have y5 := (HP6 5 _ rfl).1
    obtain ⟨z1, z2, z3⟩ := HS10.out
    refine bodyPost_ret (v := valV ((Hd.mk hV.k hV.m hV.e ⟨#[120]⟩ hV.na hV.nc hV.ns)) av (F).len c) (by simp [results, Try.results22, go_sem, y0, y1, y2, y3, y4, y5]) rfl (by first | exact ⟨(Hd.mk hV.k hV.m hV.e ⟨#[120]⟩ hV.na hV.nc hV.ns), F, av, c, _, rfl, z1, by omega, z2, z3⟩ | exact ⟨(Hd.mk hV.k hV.m hV.e ⟨#[120]⟩ hV.na hV.nc hV.ns), F, av, c, rfl, z1, _, by omega, z2, z3⟩)
  · go_wp2_with fail
    have S5 := S4.any (by omega)
    go_loopw [4] (fun i wr => ∃ (n : Nat) (hh : Hd) (FF : Vo) (aa : Option Addr) (cc : Nat), i = .int .i64 n ∧ n ≤ 20 ∧ (Row wr vb (six hh aa FF.len cc) ∧ Row wr W.heap.size zero6 ∧ AnyS (W.heap.size + 1) (39 + n) wr hh aa cc FF ∧ (oneV hh aa cc FF).Blk (fun x => ¬ x = vb) ∧ Rd w0 B b a len cap (p2 + 1) wr ∧ Otb b W wr ∧ vb < wr.heap.size)) (fun i _ => 20 - (intOf i).toNat)
    case atStart => exact ⟨0, hV, F, av, c, rfl, by omega, V4, Z4, S5, HFn.out, R4, O4, hz4⟩
    case round =>
      clear V4 Z4 S4 S5 R4 O4 hz4
      obtain ⟨n, hh, FF, aa, cc, rfl, hn, V4, Z4, S4, hFf, R4, O4, hz4⟩ := hrel
      have HF5 : Hid ((oneV hh aa cc FF).Blk (fun x => ¬ x = vb)) := hFf
      clear hFf
      by_cases hlt20 : (n : Int) < 20
      · have hn20 : n < 20 := by omega
        obtain ⟨t0, f0⟩ := V4 0 _ rfl
        obtain ⟨t1, f1⟩ := V4 1 _ rfl
        obtain ⟨t2, f2⟩ := V4 2 _ rfl
        obtain ⟨t3, f3⟩ := V4 3 _ rfl
        obtain ⟨t4, f4⟩ := V4 4 _ rfl
        obtain ⟨t5, f5⟩ := V4 5 _ rfl
        have hbp : Below W.heap.size wr (put6 wr vb 0 (.int .i64 5) (.int .i64 0) (.int .i64 0) (.string ⟨#[]⟩) (.slice (some ⟨wr.heap.size, 0, none⟩) 1 1) (.slice none 0 0)) := put6_below (Below.refl _ _) (by have := HZ2.out; omega) _ _ _ _ _ _
        have hba : Below (put6 wr vb 0 (.int .i64 5) (.int .i64 0) (.int .i64 0) (.string ⟨#[]⟩) (.slice (some ⟨wr.heap.size, 0, none⟩) 1 1) (.slice none 0 0)).heap.size (put6 wr vb 0 (.int .i64 5) (.int .i64 0) (.int .i64 0) (.string ⟨#[]⟩) (.slice (some ⟨wr.heap.size, 0, none⟩) 1 1) (.slice none 0 0)) ((put6 wr vb 0 (.int .i64 5) (.int .i64 0) (.int .i64 0) (.string ⟨#[]⟩) (.slice (some ⟨wr.heap.size, 0, none⟩) 1 1) (.slice none 0 0)).alloc (.cells #[.int .i64 hh.k, .int .i64 hh.m, .int .i64 hh.e, .string hh.t, .slice aa FF.len cc, .slice hh.na hh.ns.length hh.nc] 28)) := (Below.refl _ _).alloc (Nat.le_refl _) _
        have hPo := Otr.put6 b (j := vb) (o := 0) wr (.int .i64 5) (.int .i64 0) (.int .i64 0) (.string ⟨#[]⟩) (.slice (some ⟨wr.heap.size, 0, none⟩) 1 1) (.slice none 0 0)
        have hsz6 : (put6 wr vb 0 (.int .i64 5) (.int .i64 0) (.int .i64 0) (.string ⟨#[]⟩) (.slice (some ⟨wr.heap.size, 0, none⟩) 1 1) (.slice none 0 0)).heap.size = wr.heap.size := put6_size
        have V6 : Row ((put6 wr vb 0 (.int .i64 5) (.int .i64 0) (.int .i64 0) (.string ⟨#[]⟩) (.slice (some ⟨wr.heap.size, 0, none⟩) 1 1) (.slice none 0 0)).alloc (.cells #[.int .i64 hh.k, .int .i64 hh.m, .int .i64 hh.e, .string hh.t, .slice aa FF.len cc, .slice hh.na hh.ns.length hh.nc] 28)) vb (six (hdK 5) (some ⟨wr.heap.size, 0, none⟩) 1 1) := (Row.put6 V4).below hba (by rw [hsz6]; exact hz4)
        have Z6 : Row ((put6 wr vb 0 (.int .i64 5) (.int .i64 0) (.int .i64 0) (.string ⟨#[]⟩) (.slice (some ⟨wr.heap.size, 0, none⟩) 1 1) (.slice none 0 0)).alloc (.cells #[.int .i64 hh.k, .int .i64 hh.m, .int .i64 hh.e, .string hh.t, .slice aa FF.len cc, .slice hh.na hh.ns.length hh.nc] 28)) W.heap.size zero6 := (hPo.row hne (fun e => by have := Option.some.inj e; have := HZ2.out; omega) Z4).below hba (by rw [hsz6]; have := HZ2.out; omega)
        have S6 := S4.otr2 hPo hbB (blk_ne HF5.out)
        have hcs : ((put6 wr vb 0 (.int .i64 5) (.int .i64 0) (.int .i64 0) (.string ⟨#[]⟩) (.slice (some ⟨wr.heap.size, 0, none⟩) 1 1) (.slice none 0 0)).alloc (.cells #[.int .i64 hh.k, .int .i64 hh.m, .int .i64 hh.e, .string hh.t, .slice aa FF.len cc, .slice hh.na hh.ns.length hh.nc] 28)).heap[wr.heap.size]? = some (.cells (six hh aa FF.len cc).toArray 28 (0, 0)) := by have e := heap_alloc_new (put6 wr vb 0 (.int .i64 5) (.int .i64 0) (.int .i64 0) (.string ⟨#[]⟩) (.slice (some ⟨wr.heap.size, 0, none⟩) 1 1) (.slice none 0 0)) (.cells #[.int .i64 hh.k, .int .i64 hh.m, .int .i64 hh.e, .string hh.t, .slice aa FF.len cc, .slice hh.na hh.ns.length hh.nc] 28); rw [hsz6] at e; exact e
        have S7 := S6.wrap hba (by have := HZ2.out; omega) _ hcs
        have F7 : (oneV (hdK 5) (some (⟨wr.heap.size, 0, none⟩ : Addr)) 1 (oneV hh aa cc FF)).Blk (fun x => ¬ x = vb) := ⟨.inl rfl, .inr ⟨_, 0, rfl, by omega⟩, HF5.out, trivial⟩
        have R6 := (R4.uptoU hbp hlt (by have := R4.base_leU; omega)).below hba
        have O6 := (O4.upto hbp).below hba
        have hz6 : vb < ((put6 wr vb 0 (.int .i64 5) (.int .i64 0) (.int .i64 0) (.string ⟨#[]⟩) (.slice (some ⟨wr.heap.size, 0, none⟩) 1 1) (.slice none 0 0)).alloc (.cells #[.int .i64 hh.k, .int .i64 hh.m, .int .i64 hh.e, .string hh.t, .slice aa FF.len cc, .slice hh.na hh.ns.length hh.nc] 28)).heap.size := Nat.lt_of_lt_of_le (by rw [hsz6]; exact hz4) hba.size
        have HN : Hid (Row ((put6 wr vb 0 (.int .i64 5) (.int .i64 0) (.int .i64 0) (.string ⟨#[]⟩) (.slice (some ⟨wr.heap.size, 0, none⟩) 1 1) (.slice none 0 0)).alloc (.cells #[.int .i64 hh.k, .int .i64 hh.m, .int .i64 hh.e, .string hh.t, .slice aa FF.len cc, .slice hh.na hh.ns.length hh.nc] 28)) vb (six (hdK 5) (some ⟨wr.heap.size, 0, none⟩) (oneV hh aa cc FF).len 1) ∧ Row ((put6 wr vb 0 (.int .i64 5) (.int .i64 0) (.int .i64 0) (.string ⟨#[]⟩) (.slice (some ⟨wr.heap.size, 0, none⟩) 1 1) (.slice none 0 0)).alloc (.cells #[.int .i64 hh.k, .int .i64 hh.m, .int .i64 hh.e, .string hh.t, .slice aa FF.len cc, .slice hh.na hh.ns.length hh.nc] 28)) W.heap.size zero6 ∧ AnyS (W.heap.size + 1) (39 + n + 1) ((put6 wr vb 0 (.int .i64 5) (.int .i64 0) (.int .i64 0) (.string ⟨#[]⟩) (.slice (some ⟨wr.heap.size, 0, none⟩) 1 1) (.slice none 0 0)).alloc (.cells #[.int .i64 hh.k, .int .i64 hh.m, .int .i64 hh.e, .string hh.t, .slice aa FF.len cc, .slice hh.na hh.ns.length hh.nc] 28)) (hdK 5) (some ⟨wr.heap.size, 0, none⟩) 1 (oneV hh aa cc FF) ∧ (oneV (hdK 5) (some (⟨wr.heap.size, 0, none⟩ : Addr)) 1 (oneV hh aa cc FF)).Blk (fun x => ¬ x = vb) ∧ Rd w0 B b a len cap (p2 + 1) ((put6 wr vb 0 (.int .i64 5) (.int .i64 0) (.int .i64 0) (.string ⟨#[]⟩) (.slice (some ⟨wr.heap.size, 0, none⟩) 1 1) (.slice none 0 0)).alloc (.cells #[.int .i64 hh.k, .int .i64 hh.m, .int .i64 hh.e, .string hh.t, .slice aa FF.len cc, .slice hh.na hh.ns.length hh.nc] 28)) ∧ Otb b W ((put6 wr vb 0 (.int .i64 5) (.int .i64 0) (.int .i64 0) (.string ⟨#[]⟩) (.slice (some ⟨wr.heap.size, 0, none⟩) 1 1) (.slice none 0 0)).alloc (.cells #[.int .i64 hh.k, .int .i64 hh.m, .int .i64 hh.e, .string hh.t, .slice aa FF.len cc, .slice hh.na hh.ns.length hh.nc] 28)) ∧ vb < ((put6 wr vb 0 (.int .i64 5) (.int .i64 0) (.int .i64 0) (.string ⟨#[]⟩) (.slice (some ⟨wr.heap.size, 0, none⟩) 1 1) (.slice none 0 0)).alloc (.cells #[.int .i64 hh.k, .int .i64 hh.m, .int .i64 hh.e, .string hh.t, .slice aa FF.len cc, .slice hh.na hh.ns.length hh.nc] 28)).heap.size) := ⟨V6, Z6, S7, F7, R6, O6, hz6⟩
        clear V4 Z4 S4 R4 O4 hbp hba hPo hsz6 V6 Z6 S6 hcs S7 F7 R6 O6 hz6
        go_wp2_with fail
        refine ⟨?_, ?_⟩
        · obtain ⟨n1, n2, n3, n4, n5, n6, n7⟩ := HN.out
          exact ⟨n + 1, hdK 5, oneV hh aa cc FF, some ⟨wr.heap.size, 0, none⟩, 1, rfl, by omega, n1, n2, n3, n4, n5, n6, n7⟩
        · simp [intOf]; omega
      · have hn20 : n = 20 := by omega
        obtain ⟨t0, f0⟩ := V4 0 _ rfl
        obtain ⟨t1, f1⟩ := V4 1 _ rfl
        obtain ⟨t2, f2⟩ := V4 2 _ rfl
        obtain ⟨t3, f3⟩ := V4 3 _ rfl
        obtain ⟨t4, f4⟩ := V4 4 _ rfl
        obtain ⟨t5, f5⟩ := V4 5 _ rfl
        have Z9 := Z4
        have R9 := R4
        have O9 := O4
        have S9 := S4.mono (Nat.le_refl _) (show 39 + n ≤ 59 by omega)
        clear V4 Z4 O4 S4 R4 hn hn20 HF5
        obtain ⟨r0, g0⟩ := Z9 0 _ rfl
        obtain ⟨r1, g1⟩ := Z9 1 _ rfl
        obtain ⟨r2, g2⟩ := Z9 2 _ rfl
        obtain ⟨r3, g3⟩ := Z9 3 _ rfl
        obtain ⟨r4, g4⟩ := Z9 4 _ rfl
        obtain ⟨r5, g5⟩ := Z9 5 _ rfl
        have HP6 := Row.put6 (v0 := .int .i64 (hh).k) (v1 := .int .i64 (hh).m) (v2 := .int .i64 (hh).e) (v3 := .string (hh).t) (v4 := .slice aa (FF).len cc) (v5 := .slice (hh).na (hh).ns.length (hh).nc) Z9
        have HO6 := Otr.put6 b (j := W.heap.size) (o := 0) wr (.int .i64 (hh).k) (.int .i64 (hh).m) (.int .i64 (hh).e) (.string (hh).t) (.slice aa (FF).len cc) (.slice (hh).na (hh).ns.length (hh).nc)
        have hb9 := R9.base_leU
        have S10 := (S9.otr HO6 hbB (fun g hg => by cases hg; omega)).mono (B1 := W.heap.size) (M' := 60) (by omega) (by omega)
        have R10 := R9.uptoU (put6_below (B := W.heap.size) (nb := W.heap.size) (o := 0) (Below.refl _ wr) (Nat.le_refl _) (.int .i64 (hh).k) (.int .i64 (hh).m) (.int .i64 (hh).e) (.string (hh).t) (.slice aa (FF).len cc) (.slice (hh).na (hh).ns.length (hh).nc)) hlt (by omega)
        have O10 := O9.upto (put6_below (B := W.heap.size) (nb := W.heap.size) (o := 0) (Below.refl _ wr) (Nat.le_refl _) (.int .i64 (hh).k) (.int .i64 (hh).m) (.int .i64 (hh).e) (.string (hh).t) (.slice aa (FF).len cc) (.slice (hh).na (hh).ns.length (hh).nc))
        have HS10 : Hid (AnyS W.heap.size 60 (put6 wr W.heap.size 0 (.int .i64 (hh).k) (.int .i64 (hh).m) (.int .i64 (hh).e) (.string (hh).t) (.slice aa (FF).len cc) (.slice (hh).na (hh).ns.length (hh).nc)) (hh) aa cc FF ∧ Rd w0 B b a len cap _ (put6 wr W.heap.size 0 (.int .i64 (hh).k) (.int .i64 (hh).m) (.int .i64 (hh).e) (.string (hh).t) (.slice aa (FF).len cc) (.slice (hh).na (hh).ns.length (hh).nc)) ∧ Otb b W (put6 wr W.heap.size 0 (.int .i64 (hh).k) (.int .i64 (hh).m) (.int .i64 (hh).e) (.string (hh).t) (.slice aa (FF).len cc) (.slice (hh).na (hh).ns.length (hh).nc))) := ⟨S10, R10, O10⟩
        clear Z9 S9 R9 O9 HO6 S10 R10 O10
        go_wp2_with fail
        show bodyPost Try.prog Try.f22 _ Exit.ret _ (put6 wr W.heap.size 0 (.int .i64 (hh).k) (.int .i64 (hh).m) (.int .i64 (hh).e) (.string (hh).t) (.slice aa (FF).len cc) (.slice (hh).na (hh).ns.length (hh).nc))
        generalize put6 wr W.heap.size 0 (.int .i64 (hh).k) (.int .i64 (hh).m) (.int .i64 (hh).e) (.string (hh).t) (.slice aa (FF).len cc) (.slice (hh).na (hh).ns.length (hh).nc) = W6 at *
        have y0 := (HP6 0 _ rfl).1
        have y1 := (HP6 1 _ rfl).1
        have y2 := (HP6 2 _ rfl).1
        have y3 := (HP6 3 _ rfl).1
        have y4 := (HP6 4 _ rfl).1
        have y5 := (HP6 5 _ rfl).1
        obtain ⟨z1, z2, z3⟩ := HS10.out
        refine bodyPost_ret (v := valV (hh) aa (FF).len cc) (by simp [results, Try.results22, go_sem, y0, y1, y2, y3, y4, y5]) rfl (by first | exact ⟨hh, FF, aa, cc, _, rfl, z1, by omega, z2, z3⟩ | exact ⟨hh, FF, aa, cc, rfl, z1, _, by omega, z2, z3⟩)
  · have q0 : (v == 0) = false := by simp; omega
    have q1 : (v == 1) = false := by simp; omega
    have q2 : (v == 2) = false := by simp; omega
    have q3 : (v == 3) = false := by simp; omega
    have q4 : (v == 4) = false := by simp; omega
    obtain ⟨t0, f0⟩ := V4 0 _ rfl
    obtain ⟨t1, f1⟩ := V4 1 _ rfl
    obtain ⟨t2, f2⟩ := V4 2 _ rfl
    obtain ⟨t3, f3⟩ := V4 3 _ rfl
    obtain ⟨t4, f4⟩ := V4 4 _ rfl
    obtain ⟨t5, f5⟩ := V4 5 _ rfl
    have Z9 := Z4
    have R9 := R4
    have O9 := O4
    have S9 := S4.any (by omega)
    clear V4 Z4 O4 S4 R4 v0 v1 hv
    obtain ⟨r0, g0⟩ := Z9 0 _ rfl
    obtain ⟨r1, g1⟩ := Z9 1 _ rfl
    obtain ⟨r2, g2⟩ := Z9 2 _ rfl
    obtain ⟨r3, g3⟩ := Z9 3 _ rfl
    obtain ⟨r4, g4⟩ := Z9 4 _ rfl
    obtain ⟨r5, g5⟩ := Z9 5 _ rfl
    have HP6 := Row.put6 (v0 := .int .i64 (hV).k) (v1 := .int .i64 (hV).m) (v2 := .int .i64 (hV).e) (v3 := .string (hV).t) (v4 := .slice av (F).len c) (v5 := .slice (hV).na (hV).ns.length (hV).nc) Z9
    have HO6 := Otr.put6 b (j := W.heap.size) (o := 0) w4 (.int .i64 (hV).k) (.int .i64 (hV).m) (.int .i64 (hV).e) (.string (hV).t) (.slice av (F).len c) (.slice (hV).na (hV).ns.length (hV).nc)
    have hb9 := R9.base_leU
    have S10 := (S9.otr HO6 hbB (fun g hg => by cases hg; omega)).mono (B1 := W.heap.size) (M' := 60) (by omega) (by omega)
    have R10 := R9.uptoU (put6_below (B := W.heap.size) (nb := W.heap.size) (o := 0) (Below.refl _ w4) (Nat.le_refl _) (.int .i64 (hV).k) (.int .i64 (hV).m) (.int .i64 (hV).e) (.string (hV).t) (.slice av (F).len c) (.slice (hV).na (hV).ns.length (hV).nc)) hlt (by omega)
    have O10 := O9.upto (put6_below (B := W.heap.size) (nb := W.heap.size) (o := 0) (Below.refl _ w4) (Nat.le_refl _) (.int .i64 (hV).k) (.int .i64 (hV).m) (.int .i64 (hV).e) (.string (hV).t) (.slice av (F).len c) (.slice (hV).na (hV).ns.length (hV).nc))
    have HS10 : Hid (AnyS W.heap.size 60 (put6 w4 W.heap.size 0 (.int .i64 (hV).k) (.int .i64 (hV).m) (.int .i64 (hV).e) (.string (hV).t) (.slice av (F).len c) (.slice (hV).na (hV).ns.length (hV).nc)) (hV) av c F ∧ Rd w0 B b a len cap _ (put6 w4 W.heap.size 0 (.int .i64 (hV).k) (.int .i64 (hV).m) (.int .i64 (hV).e) (.string (hV).t) (.slice av (F).len c) (.slice (hV).na (hV).ns.length (hV).nc)) ∧ Otb b W (put6 w4 W.heap.size 0 (.int .i64 (hV).k) (.int .i64 (hV).m) (.int .i64 (hV).e) (.string (hV).t) (.slice av (F).len c) (.slice (hV).na (hV).ns.length (hV).nc))) := ⟨S10, R10, O10⟩
    clear Z9 S9 R9 O9 HO6 S10 R10 O10
    go_wp2_with fail
    show bodyPost Try.prog Try.f22 _ Exit.ret _ (put6 w4 W.heap.size 0 (.int .i64 (hV).k) (.int .i64 (hV).m) (.int .i64 (hV).e) (.string (hV).t) (.slice av (F).len c) (.slice (hV).na (hV).ns.length (hV).nc))
    generalize put6 w4 W.heap.size 0 (.int .i64 (hV).k) (.int .i64 (hV).m) (.int .i64 (hV).e) (.string (hV).t) (.slice av (F).len c) (.slice (hV).na (hV).ns.length (hV).nc) = W6 at *
    have y0 := (HP6 0 _ rfl).1
    have y1 := (HP6 1 _ rfl).1
    have y2 := (HP6 2 _ rfl).1
    have y3 := (HP6 3 _ rfl).1
    have y4 := (HP6 4 _ rfl).1
    have y5 := (HP6 5 _ rfl).1
    obtain ⟨z1, z2, z3⟩ := HS10.out
    refine bodyPost_ret (v := valV (hV) av (F).len c) (by simp [results, Try.results22, go_sem, y0, y1, y2, y3, y4, y5]) rfl (by first | exact ⟨hV, F, av, c, _, rfl, z1, by omega, z2, z3⟩ | exact ⟨hV, F, av, c, rfl, z1, _, by omega, z2, z3⟩)
end Go.Proofs.Ytafhpplhlmlfhaa
/- Drawn values: DrawValueOk; what is asked of a value that is ok; the law's region that holds both sides' answers against each other. -/
namespace Go.Proofs.Ytafhpplhlmlfhaa
open Go.RowKit
attribute [local go_sem] cell_alloc_is frozen_alloc_is
theorem AnyS.li {B0 M : Nat} {w : World} {h : Hd} {a : Option Addr} {c : Nat} {F : Vo} (x : AnyS B0 M w h a c F) (hM : M ≤ 1100000) : Li.Ok w ⟨a, F, c⟩ := by
  obtain ⟨⟨h1, h2⟩, _, h3, _⟩ := x
  exact ⟨(Vo.kin_one.1 h1).1, h2.1, h2.2.1, by have := h3.1; show F.size ≤ 1100000; omega⟩
theorem Vo.deep_at : ∀ {F : Vo} {i : Nat}, i < F.len → (F.kidsAt i).deep + 1 ≤ F.deep := by
  intro F
  induction F with
  | nil => intro i h; exact absurd h (Nat.not_lt_zero _)
  | cons h a c kids next _ ih =>
    intro i hi
    cases i with
    | zero => show kids.deep + 1 ≤ max (kids.deep + 1) next.deep; omega
    | succ i => have := ih (show i < next.len from Nat.lt_of_succ_lt_succ hi); show (next.kidsAt i).deep + 1 ≤ max (kids.deep + 1) next.deep; omega
theorem valOk_kid {h : Hd} {F : Vo} {i : Nat} (x : ValOk h F) (hi : i < F.len) : ValOk (F.hdAt i) (F.kidsAt i) := by
  obtain ⟨h1, h2, h3, h4⟩ := x
  obtain ⟨k1, k2⟩ := allOne_at hi h4
  have h5 := Vo.size_at hi
  have h6 := Vo.deep_at hi
  exact ⟨by omega, by omega, k1, k2⟩
theorem take_size_next : ∀ {F : Vo} {k : Nat}, k < F.len → (F.take (k + 1)).size = (F.take k).size + ((F.kidsAt k).size + 1) := by
  intro F
  induction F with
  | nil => intro k h; exact absurd h (Nat.not_lt_zero _)
  | cons h a c kids next _ ih =>
    intro k hk
    cases k with
    | zero =>
      have e : (next.take 0).size = 0 := by cases next <;> rfl
      show kids.size + 1 + (next.take 0).size = 0 + (kids.size + 1)
      omega
    | succ k => have := ih (show k < next.len from Nat.lt_of_succ_lt_succ hk); show kids.size + 1 + (next.take (k + 1)).size = kids.size + 1 + (next.take k).size + ((next.kidsAt k).size + 1); omega
theorem take_all : ∀ {F : Vo} {k : Nat}, F.len = k → F.take k = F := by
  intro F
  induction F with
  | nil => intro k h; subst h; rfl
  | cons h a c kids next _ ih => intro k hk; subst hk; show Vo.cons h a c kids (next.take next.len) = _; rw [ih rfl]
theorem take_size_le (F : Vo) (k : Nat) : (F.take k).size ≤ F.size := by
  have := congrArg Vo.size (Vo.take_drop F k)
  rw [Vo.app_size] at this
  omega
set_option maxHeartbeats 1000000 in
theorem drawValueOk_any (W : World) (a : Option Addr) (len cap : Nat) (h : CodeIn W a len cap) :
    Calls Try.prog 7 #[.slice a len cap] W fun e w' => (∃ hV F av c, e = .returned (valV hV av F.len c) ∧ AnyS W.heap.size 60 w' hV av c F) ∧ Below W.heap.size W w' := by
  have Z0 : Row (W.alloc (.cells #[.int .i64 0, .int .i64 0, .int .i64 0, .string ⟨#[]⟩, .slice none 0 0, .slice none 0 0] 28)) W.heap.size zero6 := Row.new W zero6 28
  have hbW : Below W.heap.size W (W.alloc (.cells #[.int .i64 0, .int .i64 0, .int .i64 0, .string ⟨#[]⟩, .slice none 0 0, .slice none 0 0] 28)) := (Below.refl _ _).alloc (Nat.le_refl _) _
  have hC := h.below hbW
  have hz0 : W.heap.size < (W.alloc (.cells #[.int .i64 0, .int .i64 0, .int .i64 0, .string ⟨#[]⟩, .slice none 0 0, .slice none 0 0] 28)).heap.size := by simp
  clear h
  go_enter Try.func7, Try.ntmps7
  go_wp2_with fail
  generalize W.alloc (.cells #[.int .i64 0, .int .i64 0, .int .i64 0, .string ⟨#[]⟩, .slice none 0 0, .slice none 0 0] 28) = W1 at *
  refine (l1Open_any W1 a len cap hC).mono ?_
  rintro e w1 ⟨len', rfl, hR⟩
  have hb1 : Below W1.heap.size W1 w1 := hR.1
  have Z1 := Z0.below hb1 hz0
  go_wp2_with fail
  refine (l14AnyValue_any 0 w1 hR (by omega)).mono ?_
  rintro e w2 ⟨hV, F, av, c, p', rfl, hS, _, hR2, hO2⟩
  have hb2 : Below W1.heap.size W1 w2 := hR2.1
  have hB : Below W.heap.size W w2 := hbW.trans (hb2.mono (Nat.le_of_lt hz0))
  have Z2 := Z0.below hb2 hz0
  obtain ⟨r0, g0⟩ := Z2 0 _ rfl
  obtain ⟨r1, g1⟩ := Z2 1 _ rfl
  obtain ⟨r2, g2⟩ := Z2 2 _ rfl
  obtain ⟨r3, g3⟩ := Z2 3 _ rfl
  obtain ⟨r4, g4⟩ := Z2 4 _ rfl
  obtain ⟨r5, g5⟩ := Z2 5 _ rfl
  have hzw : W1.heap.size ≤ w1.heap.size := hb1.size
  have HP6 := Row.put6 (v0 := .int .i64 hV.k) (v1 := .int .i64 hV.m) (v2 := .int .i64 hV.e) (v3 := .string hV.t) (v4 := .slice av F.len c) (v5 := .slice hV.na hV.ns.length hV.nc) Z2
  have HO6 := Otr.put6 W.heap.size (j := W.heap.size) (o := 0) w2 (.int .i64 hV.k) (.int .i64 hV.m) (.int .i64 hV.e) (.string hV.t) (.slice av F.len c) (.slice hV.na hV.ns.length hV.nc)
  have HS : Hid (AnyS W.heap.size 60 (put6 w2 W.heap.size 0 (.int .i64 hV.k) (.int .i64 hV.m) (.int .i64 hV.e) (.string hV.t) (.slice av F.len c) (.slice hV.na hV.ns.length hV.nc)) hV av c F ∧ Below W.heap.size W (put6 w2 W.heap.size 0 (.int .i64 hV.k) (.int .i64 hV.m) (.int .i64 hV.e) (.string hV.t) (.slice av F.len c) (.slice hV.na hV.ns.length hV.nc))) :=
    ⟨(hS.otr HO6 (by omega) (fun g hg => by cases hg; omega)).mono (by omega) (Nat.le_refl _), put6_below hB (Nat.le_refl _) _ _ _ _ _ _⟩
  clear Z0 Z1 Z2 hS hR2 hO2 hb2 hB HO6 hR hb1 hC hbW
  go_wp2_with fail
  show bodyPost Try.prog Try.f7 _ Exit.ret _ (put6 w2 W.heap.size 0 (.int .i64 hV.k) (.int .i64 hV.m) (.int .i64 hV.e) (.string hV.t) (.slice av F.len c) (.slice hV.na hV.ns.length hV.nc))
  generalize put6 w2 W.heap.size 0 (.int .i64 hV.k) (.int .i64 hV.m) (.int .i64 hV.e) (.string hV.t) (.slice av F.len c) (.slice hV.na hV.ns.length hV.nc) = W6 at *
  have y0 := (HP6 0 _ rfl).1
  have y1 := (HP6 1 _ rfl).1
  have y2 := (HP6 2 _ rfl).1
  have y3 := (HP6 3 _ rfl).1
  have y4 := (HP6 4 _ rfl).1
  have y5 := (HP6 5 _ rfl).1
  refine bodyPost_ret (v := valV hV av F.len c) (by simp [results, Try.results7, go_sem, y0, y1, y2, y3, y4, y5]) rfl ⟨⟨hV, F, av, c, rfl, HS.out.1⟩, HS.out.2⟩
set_option maxRecDepth 100000 in
set_option maxHeartbeats 2000000 in
theorem vk5 {Q : Exit → Act → World → Prop} {t0 t1 t2 t5 t6 t7 t8 t9 t10 t11 t12 t13 t14 t15 t16 t17 t18 t19 t20 t21 t22 t23 t24 t25 t26 t27 t28 t29 t30 t31 t32 t33 t34 t35 t36 t37 t38 t39 t40 t41 t42 t43 t44 t45 t46 t47 t48 t49 t50 t51 t52 t53 t54 t55 t56 t57 t58 t59 t60 t61 : Value} {W : World} {vb B0 c : Nat} {ok : Bool} {hV : Hd} {av : Option Addr} {F : Vo}
    (hS : AnyS B0 60 W hV av c F) (hv : Row W vb (six hV av F.len c)) (hok : ok = true ↔ ValGood hV F)
    (hp : ∀ p d v a w, Q (.panic p) (Act.put a d v) w → Q (.panic p) a w) (h : ∀ ws v14 v15 v16 v17 v18 v19 v20 v21 v22 v23, Below W.heap.size W ws → Q .normal { tmps := (t0 :: t1 :: t2 :: .pointer (some ⟨vb, 0, none⟩) :: .bool ok :: t5 :: t6 :: t7 :: t8 :: t9 :: t10 :: t11 :: t12 :: t13 :: v14 :: v15 :: v16 :: v17 :: v18 :: v19 :: v20 :: v21 :: v22 :: v23 :: .bool false :: t25 :: t26 :: t27 :: t28 :: t29 :: t30 :: t31 :: t32 :: t33 :: t34 :: t35 :: t36 :: t37 :: t38 :: t39 :: t40 :: t41 :: t42 :: t43 :: t44 :: t45 :: t46 :: t47 :: t48 :: t49 :: t50 :: t51 :: t52 :: t53 :: t54 :: t55 :: t56 :: t57 :: t58 :: t59 :: t60 :: t61 :: []).toArray, defers := [] } ws) :
    Code.wp Try.prog (Code.region 5 #[{ dst := some 14, op := Op.move (Operand.tmp 4), type := 4, pos := "laws.go:557", after := #[], guard := none }, { dst := some 15, op := Op.load 28 (Operand.tmp 3), type := 28, pos := "laws.go:557", after := #[], guard := none }, { dst := some 16, op := Op.call { callee := Callee.value (Operand.func 9), args := #[Operand.tmp 15], argTypes := #[28] }, type := 4, pos := "laws.go:557", after := #[{ on := 1, ground := Ground.data }], guard := none }, { dst := some 17, op := Op.binOp BinOp.neq 4 (Operand.tmp 14) (Operand.tmp 16) 4, type := 4, pos := "laws.go:557", after := #[{ on := 0, ground := Ground.data }, { on := 2, ground := Ground.data }], guard := none }, { dst := some 18, op := Op.move (Operand.tmp 17), type := 4, pos := "laws.go:557", after := #[{ on := 3, ground := Ground.data }, { on := 2, ground := Ground.chain }], guard := none }, { dst := some 19, op := Op.load 28 (Operand.tmp 3), type := 28, pos := "laws.go:557", after := #[{ on := 4, ground := Ground.guard }], guard := some (4, false) }, { dst := some 20, op := Op.call { callee := Callee.value (Operand.func 10), args := #[Operand.tmp 19], argTypes := #[28] }, type := 3, pos := "laws.go:557", after := #[{ on := 5, ground := Ground.data }, { on := 4, ground := Ground.chain }, { on := 4, ground := Ground.guard }], guard := some (4, false) }, { dst := some 21, op := Op.load 28 (Operand.tmp 3), type := 28, pos := "laws.go:557", after := #[{ on := 4, ground := Ground.guard }], guard := some (4, false) }, { dst := some 22, op := Op.call { callee := Callee.value (Operand.func 11), args := #[Operand.tmp 21], argTypes := #[28] }, type := 3, pos := "laws.go:557", after := #[{ on := 7, ground := Ground.data }, { on := 6, ground := Ground.chain }, { on := 4, ground := Ground.guard }], guard := some (4, false) }, { dst := some 23, op := Op.binOp BinOp.neq 3 (Operand.tmp 20) (Operand.tmp 22) 3, type := 4, pos := "laws.go:557", after := #[{ on := 6, ground := Ground.data }, { on := 8, ground := Ground.data }, { on := 4, ground := Ground.guard }], guard := some (4, false) }, { dst := some 24, op := Op.pick (Operand.tmp 18) (Operand.const (Value.bool true)) (Operand.tmp 23), type := 4, pos := "laws.go:557", after := #[{ on := 4, ground := Ground.data }, { on := 9, ground := Ground.data }], guard := none }] true) Q { tmps := (t0 :: t1 :: t2 :: .pointer (some ⟨vb, 0, none⟩) :: .bool ok :: t5 :: t6 :: t7 :: t8 :: t9 :: t10 :: t11 :: t12 :: t13 :: t14 :: t15 :: t16 :: t17 :: t18 :: t19 :: t20 :: t21 :: t22 :: t23 :: t24 :: t25 :: t26 :: t27 :: t28 :: t29 :: t30 :: t31 :: t32 :: t33 :: t34 :: t35 :: t36 :: t37 :: t38 :: t39 :: t40 :: t41 :: t42 :: t43 :: t44 :: t45 :: t46 :: t47 :: t48 :: t49 :: t50 :: t51 :: t52 :: t53 :: t54 :: t55 :: t56 :: t57 :: t58 :: t59 :: t60 :: t61 :: []).toArray, defers := [] } W := by
  have hvl := World.block_lt_of_cell? W _ (hv 0 _ rfl).1
  have HSof : Hid (∀ w', Below W.heap.size W w' → Cells6 w' vb 0 hV (.slice av F.len c)) := fun w' h => by
    have hr := hv.below h hvl
    exact ⟨(hr 0 _ rfl).1, (hr 1 _ rfl).1, (hr 2 _ rfl).1, (hr 3 _ rfl).1, (hr 4 _ rfl).1, (hr 5 _ rfl).1⟩
  have HA : Hid (∀ w', Below W.heap.size W w' → AnyS B0 60 w' hV av c F) := fun w' h => hS.below h
  have HG : Hid (ok = true ↔ ValGood hV F) := hok
  have hB0 := (Below.refl W.heap.size W).drew
  have hS0 := HSof.out _ hB0
  clear hS hv hok
  refine wp_region_held_drew (S := fun w' => Cells6 w' vb 0 hV (.slice av F.len c)) (by kernel_rfl) hS0 (fun hHeld => ?_)
  generalize W.drew = Wd at *
  refine wpAnyH_take (i := 0) (v := .bool ok) rfl (by kernel_rfl) (by kernel_rfl) (by kernel_rfl) (fun _ _ _ h => hp _ _ _ _ _ h) (Or.inl ⟨by rfl, ?_⟩) (by assumption) ?_
  · intro w hSw
    (try dsimp only at hSw)
    go_simp
  (try simp only [Act.put, List.getElem_toArray, List.getElem_cons_zero, List.setIfInBounds_toArray, List.set_cons_zero, List.set_cons_succ])
  refine wpAnyH_take (i := 1) (v := valV hV av F.len c) rfl (by kernel_rfl) (by kernel_rfl) (by kernel_rfl) (fun _ _ _ h => hp _ _ _ _ _ h) (Or.inl ⟨by rfl, ?_⟩) (by assumption) ?_
  · intro w hSw
    (try dsimp only at hSw)
    (obtain ⟨l0, l1, l2, l3, l4, l5⟩ := hSw; go_simp)
  (try simp only [Act.put, List.getElem_toArray, List.getElem_cons_zero, List.getElem_cons_succ, List.setIfInBounds_toArray, List.set_cons_zero, List.set_cons_succ])
  refine wpAnyH_ready (rs := [2]) (by kernel_rfl) (by simp) ?_
  refine AllReadyH.cons rfl (fun K hK => ?_) AllReadyH.nil
  have hA := HA.out _ hB0
  obtain ⟨i1, i2, i3⟩ := Vo.kin_one.1 hA.1.1
  have hsz := hA.2.2.1.1
  go_simp
  refine (sValueOk_any hV av c F Wd (by omega) i1 i2.1 i2.2 i3).mono ?_
  rintro r w1 ⟨⟨ok2, rfl, hq2⟩, hb1⟩
  have hB1 := hB0.trans (hb1.mono hB0.size)
  have hee : ok2 = ok := by
    have h5 : ok2 = true ↔ ok = true := hq2.trans ((good_ok hV F).symm.trans HG.out.symm)
    cases ok <;> cases ok2 <;> simp_all
  subst hee
  have hne : (ok2 != ok2) = false := by cases ok2 <;> rfl
  clear hq2 i1 i2 i3 hA HG
  go_wp2_with fail
  refine hK.out _ _ (HSof.out _ hB1) (fun hHeld => ?_)
  clear hK K hB0 hb1 hS0
  refine wpAnyH_take (i := 3) (v := .bool false) rfl (by kernel_rfl) (by kernel_rfl) (by kernel_rfl) (fun _ _ _ h => hp _ _ _ _ _ h) (Or.inl ⟨by rfl, ?_⟩) (by assumption) ?_
  · intro w hSw
    (try dsimp only at hSw)
    go_simp
  (try simp only [Act.put, List.getElem_toArray, List.getElem_cons_zero, List.getElem_cons_succ, List.setIfInBounds_toArray, List.set_cons_zero, List.set_cons_succ])
  clear hne
  refine wpAnyH_take (i := 4) (v := .bool false) rfl (by kernel_rfl) (by kernel_rfl) (by kernel_rfl) (fun _ _ _ h => hp _ _ _ _ _ h) (Or.inl ⟨by rfl, ?_⟩) (by assumption) ?_
  · intro w hSw
    (try dsimp only at hSw)
    go_simp
  (try simp only [Act.put, List.getElem_toArray, List.getElem_cons_zero, List.getElem_cons_succ, List.setIfInBounds_toArray, List.set_cons_zero, List.set_cons_succ])
  refine wpAnyH_take (i := 5) (v := valV hV av F.len c) rfl (by kernel_rfl) (by kernel_rfl) (by kernel_rfl) (fun _ _ _ h => hp _ _ _ _ _ h) (Or.inl ⟨by rfl, ?_⟩) (by assumption) ?_
  · intro w hSw
    (try dsimp only at hSw)
    (obtain ⟨l0, l1, l2, l3, l4, l5⟩ := hSw; go_simp)
  (try simp only [Act.put, List.getElem_toArray, List.getElem_cons_zero, List.getElem_cons_succ, List.setIfInBounds_toArray, List.set_cons_zero, List.set_cons_succ])
  refine wpAnyH_take (i := 7) (v := valV hV av F.len c) rfl (by kernel_rfl) (by kernel_rfl) (by kernel_rfl) (fun _ _ _ h => hp _ _ _ _ _ h) (Or.inl ⟨by rfl, ?_⟩) (by assumption) ?_
  · intro w hSw
    (try dsimp only at hSw)
    (obtain ⟨l0, l1, l2, l3, l4, l5⟩ := hSw; go_simp)
  (try simp only [Act.put, List.getElem_toArray, List.getElem_cons_zero, List.getElem_cons_succ, List.setIfInBounds_toArray, List.set_cons_zero, List.set_cons_succ])
  refine wpAnyH_ready (rs := [6]) (by kernel_rfl) (by simp) ?_
  refine AllReadyH.cons rfl (fun K hK => ?_) AllReadyH.nil
  rw [if_pos (by rfl)]
  have hL := (HA.out _ hB1).li (by omega)
  go_simp
  refine (iValueSize_any hV av F c _ hL).mono ?_
  rintro r w2 ⟨rfl, hb2⟩
  have hB2 := hB1.trans (hb2.mono hB1.size)
  go_wp2_with fail
  refine hK.out _ _ (HSof.out _ hB2) (fun hHeld => ?_)
  clear hK K hb2 hL
  refine wpAnyH_ready (rs := [8]) (by kernel_rfl) (by simp) ?_
  refine AllReadyH.cons rfl (fun K hK => ?_) AllReadyH.nil
  rw [if_pos (by rfl)]
  have hA := HA.out _ hB2
  obtain ⟨i1, i2, i3⟩ := Vo.kin_one.1 hA.1.1
  have hsz2 := hA.2.2.1.1
  go_simp
  refine (sValueSize_any (F.size + 1) hV av c F _ (by omega) (by omega) i1 i2.1 i2.2).mono ?_
  rintro r w3 ⟨rfl, hb3⟩
  have hB3 := hB2.trans (hb3.mono hB2.size)
  clear i1 i2 i3 hA
  go_wp2_with fail
  refine hK.out _ _ (HSof.out _ hB3) (fun hHeld => ?_)
  clear hK K hb3
  refine wpAnyH_take (i := 9) (v := .bool false) rfl (by kernel_rfl) (by kernel_rfl) (by kernel_rfl) (fun _ _ _ h => hp _ _ _ _ _ h) (Or.inl ⟨by rfl, ?_⟩) (by assumption) ?_
  · intro w hSw
    (try dsimp only at hSw)
    (go_simp <;> simp)
  (try simp only [Act.put, List.getElem_toArray, List.getElem_cons_zero, List.getElem_cons_succ, List.setIfInBounds_toArray, List.set_cons_zero, List.set_cons_succ])
  refine wpAnyH_take (i := 10) (v := .bool false) rfl (by kernel_rfl) (by kernel_rfl) (by kernel_rfl) (fun _ _ _ h => hp _ _ _ _ _ h) (Or.inl ⟨by rfl, ?_⟩) (by assumption) ?_
  · intro w hSw
    (try dsimp only at hSw)
    go_simp
  (try simp only [Act.put, List.getElem_toArray, List.getElem_cons_zero, List.getElem_cons_succ, List.setIfInBounds_toArray, List.set_cons_zero, List.set_cons_succ])
  refine wpAnyH_done (by kernel_rfl) ?_ _
  exact h _ _ _ _ _ _ _ _ _ _ _ hB3
end Go.Proofs.Ytafhpplhlmlfhaa
/- The law FnValueOk walked. -/
namespace Go.Proofs.Ytafhpplhlmlfhaa
open Go.RowKit
attribute [local go_sem] cell_alloc_is frozen_alloc_is
set_option maxRecDepth 100000 in
set_option maxHeartbeats 2000000 in
theorem walk_FnValueOk (a : Option Addr) (len cap : Nat) (zs : List Int) (w : World) (hz : IsRow .u8 w a len cap zs) :
    Calls Try.prog 3 #[.slice a len cap] w fun e w' => e = .returned (.bool true) ∧ Below w.heap.size w w' := by
  have hc := codeIn_of hz
  clear hz
  have hm : cap ≤ maxLen := hc.2.2.1
  have hlc : len ≤ cap := hc.2.1
  unfold maxLen at hm
  by_cases hlen : len ≤ 1048576
  · go_enter Try.func3, Try.ntmps3
    go_wp2_with fail
    refine (drawValueOk_any w a len cap hc).mono ?_
    rintro e w1 ⟨⟨hV, F, av, c, rfl, hS⟩, hb1⟩
    have hbW : Below w1.heap.size w1 (w1.alloc (.cells #[.int .i64 hV.k, .int .i64 hV.m, .int .i64 hV.e, .string hV.t, .slice av F.len c, .slice hV.na hV.ns.length hV.nc] 28)) := (Below.refl _ _).alloc (Nat.le_refl _) _
    have V2 : Row (w1.alloc (.cells #[.int .i64 hV.k, .int .i64 hV.m, .int .i64 hV.e, .string hV.t, .slice av F.len c, .slice hV.na hV.ns.length hV.nc] 28)) w1.heap.size (six hV av F.len c) := Row.new w1 _ _
    have hb2 := hb1.trans (hbW.mono hb1.size)
    have hS2 := hS.below hbW
    clear hbW hS hc
    go_wp2_with fail
    obtain ⟨vb, hvb⟩ : ∃ vb, w1.heap.size = vb := ⟨_, rfl⟩
    rw [hvb] at V2 ⊢
    generalize w1.alloc (.cells #[.int .i64 hV.k, .int .i64 hV.m, .int .i64 hV.e, .string hV.t, .slice av F.len c, .slice hV.na hV.ns.length hV.nc] 28) = w2 at *
    clear hvb hb1
    obtain ⟨i1, i2, i3⟩ := Vo.kin_one.1 hS2.1.1
    have hsz := hS2.2.2.1.1
    refine (iValueOk_any hV av c F w2 (by omega) i1 i2.1 i2.2 i3).mono ?_
    rintro r w3 ⟨⟨ok, rfl, hok⟩, hb3⟩
    clear i1 i2 i3
    have hB3 := hb2.trans (hb3.mono hb2.size)
    have hS3 := hS2.below hb3
    have hvl := World.block_lt_of_cell? w2 _ (V2 0 _ rfl).1
    have V3 := V2.below hb3 hvl
    have HOK : Hid (ok = true → ValOk hV F) := fun e => (good_ok hV F).1 (hok.1 e)
    clear hS2 V2 hb2 hb3 hvl
    go_wp2_with fail
    refine vk5 hS3 V3 hok (fun _ d _ _ _ h => by cases d <;> exact h) ?_
    intro w4 v14 v15 v16 v17 v18 v19 v20 v21 v22 v23 hb4
    have hB4 := hB3.trans (hb4.mono hB3.size)
    have hvl := World.block_lt_of_cell? w3 _ (V3 0 _ rfl).1
    have V4 := V3.below hb4 hvl
    have hS4 := hS3.below hb4
    clear hS3 V3 hB3 hb4 hvl hok
    go_wp2_with fail
    go_loopw [5, 6] (fun s i wr => ∃ k : Nat, k ≤ F.len ∧ s = .int .i64 ((1 + (F.take k).size : Nat) : Int) ∧ i = .int .i64 k ∧ Below w.heap.size w wr ∧ Row wr vb (six hV av F.len c) ∧ AnyS w.heap.size 60 wr hV av c F) (fun _ i _ => F.len - (intOf i).toNat)
    case atStart => exact ⟨0, Nat.zero_le _, by cases F <;> rfl, rfl, hB4, V4, hS4⟩
    case round =>
      clear hB4 V4 hS4
      obtain ⟨k, hk, rfl, rfl, hB, V, hS⟩ := hrel
      obtain ⟨i1, i2, i3⟩ := Vo.kin_one.1 hS.1.1
      have hLi := hS.li (by omega)
      have hvl := World.block_lt_of_cell? wr _ (V 0 _ rfl).1
      have hts := take_size_le F k
      by_cases hk2 : k < F.len
      · have hlt : (k : Int) < (F.len : Int) := by omega
        obtain ⟨b, o, rfl, hF⟩ := Vo.from_of_len i1 hk2
        obtain ⟨⟨x0, x1, x2, x3, x4, x5⟩, j1, j2, j3⟩ := Vo.from_at hF hk2
        have HLk : Hid (Li.Ok wr ⟨F.addrAt k, F.kidsAt k, F.capAt k⟩) := Li.ok_kid (x := ⟨some ⟨b, o, none⟩, F, c⟩) hLi hk2
        have hks := Vo.size_at hk2
        have HN : Hid ((F.take (k + 1)).size = (F.take k).size + ((F.kidsAt k).size + 1)) := take_size_next hk2
        have HKid : Hid (ok = true → ValOk (F.hdAt k) (F.kidsAt k)) := fun e => valOk_kid (HOK.out e) hk2
        have HSS : Hid (Row wr vb (six hV (some ⟨b, o, none⟩) F.len c) ∧ AnyS w.heap.size 60 wr hV (some ⟨b, o, none⟩) c F ∧ Below w.heap.size w wr) := ⟨V, hS, hB⟩
        have HJ : Hid ((F.kidsAt k).In wr (F.addrAt k) ∧ ((F.kidsAt k).len ≤ F.capAt k ∧ F.capAt k ≤ maxLen) ∧ (F.hdAt k).In wr) := ⟨j1, j2, j3⟩
        have hv4 := (V 4 _ rfl).1
        have HC6 : Hid (Cells6 wr b (o + k * 6) (F.hdAt k) (.slice (F.addrAt k) (F.kidsAt k).len (F.capAt k))) := ⟨x0, x1, x2, x3, x4, x5⟩
        have hbl := hF
        have hm2 : F.size ≤ 60 := hS.2.2.1.1
        have hl2 : F.len ≤ 60 := Nat.le_trans F.len_le hm2
        have HSUM : Hid ((F.take (k + 1)).size ≤ F.size) := take_size_le F (k + 1)
        have hsum : (F.take k).size + ((F.kidsAt k).size + 1) ≤ 60 := by have h1 := HSUM.out; have h2 := HN.out; omega
        have hlb := World.block_lt_of_cell? wr _ x0
        clear i1 i2 i3 hLi hF hbl j1 j2 j3 V hS hB hts HSUM
        generalize F.hdAt k = gk at *
        generalize F.addrAt k = ak at *
        generalize F.kidsAt k = Fk at *
        generalize F.capAt k = ck at *
        go_wp2_with fail
        refine (iValueSize_any gk ak Fk ck wr HLk.out).mono ?_
        rintro r w5 ⟨rfl, hb5⟩
        have HSS5 : Hid (Row w5 vb (six hV (some ⟨b, o, none⟩) F.len c) ∧ AnyS w.heap.size 60 w5 hV (some ⟨b, o, none⟩) c F ∧ Below w.heap.size w w5) := ⟨HSS.out.1.below hb5 hvl, HSS.out.2.1.below hb5, HSS.out.2.2.trans (hb5.mono HSS.out.2.2.size)⟩
        have hv5 := (HSS5.out.1 4 _ rfl).1
        obtain ⟨y0, y1, y2, y3, y4, y5⟩ := HC6.out.grow hb5
        have HJ5 : Hid (Fk.In w5 ak ∧ (Fk.len ≤ ck ∧ ck ≤ maxLen) ∧ gk.In w5) := ⟨HJ.out.1.grow hb5, HJ.out.2.1, HJ.out.2.2.grow hb5⟩
        clear HSS HJ HC6 HLk x0 x1 x2 x3 x4 x5 hv4 hvl hlb hb5
        cases ok
        · go_wp2_with fail
          refine ⟨?_, ?_⟩
          · obtain ⟨n1, n2, n3⟩ := HSS5.out
            refine ⟨k + 1, by omega, ?_, by go_num, n3, n1, n2⟩
            rw [HN.out]
            have e : (((1 + ((F.take k).size + (Fk.size + 1)) : Nat)) : Int) = ((1 + (F.take k).size : Nat) : Int) + ((Fk.size + 1 : Nat) : Int) := by omega
            rw [e]
            first | rfl | go_num
          · simp [intOf]; omega
        · have hgood : ValGood gk Fk := (good_ok gk Fk).2 (HKid.out rfl)
          go_wp2_with fail
          refine (iValueOk_any gk ak ck Fk w5 (by omega) HJ5.out.1 HJ5.out.2.1.1 HJ5.out.2.1.2 HJ5.out.2.2).mono ?_
          rintro r w6 ⟨⟨ok6, rfl, hok6⟩, hb6⟩
          obtain rfl : ok6 = true := hok6.2 hgood
          have HSS6 : Hid (Row w6 vb (six hV (some ⟨b, o, none⟩) F.len c) ∧ AnyS w.heap.size 60 w6 hV (some ⟨b, o, none⟩) c F ∧ Below w.heap.size w w6) := ⟨HSS5.out.1.below hb6 (World.block_lt_of_cell? w5 _ (HSS5.out.1 0 _ rfl).1), HSS5.out.2.1.below hb6, HSS5.out.2.2.trans (hb6.mono HSS5.out.2.2.size)⟩
          clear HSS5 HJ5 y0 y1 y2 y3 y4 y5 hv5 hb6
          go_wp2_with fail
          refine ⟨?_, ?_⟩
          · obtain ⟨n1, n2, n3⟩ := HSS6.out
            refine ⟨k + 1, by omega, ?_, by go_num, n3, n1, n2⟩
            rw [HN.out]
            have e : (((1 + ((F.take k).size + (Fk.size + 1)) : Nat)) : Int) = ((1 + (F.take k).size : Nat) : Int) + ((Fk.size + 1 : Nat) : Int) := by omega
            rw [e]
            first | rfl | go_num
          · simp [intOf]; omega
      · have hke : F.len = k := by omega
        have e : 1 + (F.take k).size = F.size + 1 := by rw [take_all hke]; omega
        have hlt : ¬ (k : Int) < (F.len : Int) := by omega
        have hm2 : F.size ≤ 60 := hS.2.2.1.1
        have HKE : Hid (F.len = k) := hke
        rw [e]
        have l0 := (V 0 _ rfl).1
        have l1 := (V 1 _ rfl).1
        have l2 := (V 2 _ rfl).1
        have l3 := (V 3 _ rfl).1
        have l4 := (V 4 _ rfl).1
        have l5 := (V 5 _ rfl).1
        have hle : decide ((F.size : Int) + 1 ≤ 200) = true := decide_eq_true (by omega)
        have HB : Hid (Below w.heap.size w wr) := hB
        clear i1 i2 i3 hke e hts hB
        cases ok
        all_goals
          go_wp2_with fail
          refine (iValueSize_any hV av F c wr hLi).mono ?_
          rintro r w5 ⟨rfl, hb5⟩
          go_wp2_with fail
          go_ret
          first | exact ⟨rfl, HB.out.trans (hb5.mono HB.out.size)⟩ | exact ⟨congrArg (fun q => Ending.returned (Value.bool q)) hle, HB.out.trans (hb5.mono HB.out.size)⟩
  · go_enter Try.func3, Try.ntmps3
    go_wp2_with fail
    go_ret
    exact ⟨rfl, Below.refl _ _⟩
end Go.Proofs.Ytafhpplhlmlfhaa
