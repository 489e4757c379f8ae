/- My own texts, joined: Uj Uk Ta. -/
import Derived.Test.YtfgchdnpbbgmjaaJFnTomlNot7
import Derived.Test.YtfgchdnpbbgmjaaJFnTomlNot5
/- Drawn values: l14Value. -/
namespace Go.Proofs.Ytfgchdnpbbgmjaa
open Go.RowKit
attribute [local go_sem] cell_alloc_is frozen_alloc_is
theorem pick3 {k : Int} (h0 : 0 ≤ k) (h1 : k < 5) : k = 0 ∨ k = 1 ∨ k = 2 ∨ k = 3 ∨ k = 4 := by omega
theorem pick7 {k : Int} (h0 : 0 ≤ k) (h1 : k < 7) : k = 0 ∨ k = 1 ∨ k = 2 ∨ k = 3 ∨ k = 4 ∨ k = 5 ∨ k = 6 := by omega
/-- an empty value of a kind -/
abbrev hdK (k : Int) : Hd := ⟨k, 0, 0, ⟨#[]⟩, none, 0, []⟩
abbrev hdNum (m x : Int) : Hd := ⟨3, m, x, ⟨#[]⟩, none, 0, []⟩
abbrev hdTxt (s : ByteArray) : Hd := ⟨4, 0, 0, s, none, 0, []⟩
abbrev zero6 : List Value := [.int .i64 0, .int .i64 0, .int .i64 0, .string ⟨#[]⟩, .slice none 0 0, .slice none 0 0]
theorem Row.put6 {w : World} {b : Nat} {x0 x1 x2 x3 x4 x5 v0 v1 v2 v3 v4 v5 : Value} (h : Row w b [x0, x1, x2, x3, x4, x5]) : Row (put6 w b 0 v0 v1 v2 v3 v4 v5) b [v0, v1, v2, v3, v4, v5] :=
  (((((h.set (i := 0) (by simp) v0).set (i := 1) (by simp) v1).set (i := 2) (by simp) v2).set (i := 3) (by simp) v3).set (i := 4) (by simp) v4).set (i := 5) (by simp) v5
/-- the state ahead of the last region -/
def EndS (w0 : World) (B b : Nat) (a : Option Addr) (len cap : Nat) (q : Int) (W : World) (vb M : Nat) (h : Hd) (av : Option Addr) (c : Nat) (F : Vo) (w : World) : Prop :=
  Row w vb (six h av F.len c) ∧ Row w W.heap.size zero6 ∧ ValS (vb + 1) 3 M w h av c F ∧ Rd w0 B b a len cap q w ∧ Otb b W w

set_option maxRecDepth 100000 in
set_option maxHeartbeats 300000 in
theorem l14Value_zero {w0 : World} {B b : Nat} {a : Option Addr} {len cap : Nat} : DrawC w0 B b a len cap 0 := by
  intro p W hR hp
  have hp1 : p + 30 ≤ 80000 := hp
  clear hp
  have hlt := hR.lt
  have hne : ¬ W.heap.size = b := by omega
  have Z0 : Row (W.alloc (.cells #[.int .i64 0, .int .i64 0, .int .i64 0, .string ⟨#[]⟩, .slice none 0 0, .slice none 0 0] 28)) W.heap.size zero6 := Row.new W zero6 28
  have R0 := hR.below ((Below.refl _ W).alloc (Nat.le_refl _) (.cells #[.int .i64 0, .int .i64 0, .int .i64 0, .string ⟨#[]⟩, .slice none 0 0, .slice none 0 0] 28))
  have O0 := (Otb.refl b W).alloc (.cells #[.int .i64 0, .int .i64 0, .int .i64 0, .string ⟨#[]⟩, .slice none 0 0, .slice none 0 0] 28)
  have hz0 : W.heap.size < (W.alloc (.cells #[.int .i64 0, .int .i64 0, .int .i64 0, .string ⟨#[]⟩, .slice none 0 0, .slice none 0 0] 28)).heap.size := by simp
  clear hR
  go_enter Try.func46, Try.ntmps46
  go_wp2_with fail
  generalize W.alloc (.cells #[.int .i64 0, .int .i64 0, .int .i64 0, .string ⟨#[]⟩, .slice none 0 0, .slice none 0 0] 28) = W1 at *
  refine (pick_any 7 R0 (by omega) (by omega) (by omega)).mono ?_
  rintro r w1 ⟨⟨k0, rfl, k00, k01⟩, s1⟩
  have R1 := R0.step s1
  have Z1 : Row w1 W.heap.size zero6 := Row.otb ((Otb.refl b W1).stepped s1) hne Z0
  have O1 := O0.stepped s1
  have hz1 : W.heap.size < w1.heap.size := by rw [s1.other.2.2]; exact hz0
  clear Z0 R0 O0 hz0 s1
  go_wp2_with fail
  refine (pick_any 5 R1 (by omega) (by omega) (by omega)).mono ?_
  rintro r w2 ⟨⟨k, rfl, k10, k11⟩, s2⟩
  have R2 := R1.step s2
  have Z2 : Row w2 W.heap.size zero6 := Row.otb ((Otb.refl b w1).stepped s2) hne Z1
  have O2 := O1.stepped s2
  have hz2 : W.heap.size < w2.heap.size := by rw [s2.other.2.2]; exact hz1
  clear Z1 R1 O1 hz1 s2 k00 k01
  rcases pick3 k10 k11 with rfl | rfl | rfl | rfl | rfl
  · skip
    obtain ⟨r0, g0⟩ := Z2 0 _ rfl
    obtain ⟨r1, g1⟩ := Z2 1 _ rfl
    obtain ⟨r2, g2⟩ := Z2 2 _ rfl
    obtain ⟨r3, g3⟩ := Z2 3 _ rfl
    obtain ⟨r4, g4⟩ := Z2 4 _ rfl
    obtain ⟨r5, g5⟩ := Z2 5 _ rfl
    have hbp : Below W.heap.size w2 (put6 w2 W.heap.size 0 (.int .i64 0) (.int .i64 0) (.int .i64 0) (.string ⟨#[]⟩) (.slice none 0 0) (.slice none 0 0)) := put6_below (Below.refl _ _) (Nat.le_refl _) _ _ _ _ _ _
    have hba : Below (put6 w2 W.heap.size 0 (.int .i64 0) (.int .i64 0) (.int .i64 0) (.string ⟨#[]⟩) (.slice none 0 0) (.slice none 0 0)).heap.size (put6 w2 W.heap.size 0 (.int .i64 0) (.int .i64 0) (.int .i64 0) (.string ⟨#[]⟩) (.slice none 0 0) (.slice none 0 0)) ((put6 w2 W.heap.size 0 (.int .i64 0) (.int .i64 0) (.int .i64 0) (.string ⟨#[]⟩) (.slice none 0 0) (.slice none 0 0)).alloc (.cells #[.int .i64 0, .int .i64 0, .int .i64 0, .string ⟨#[]⟩, .slice none 0 0, .slice none 0 0] 28)) := (Below.refl _ _).alloc (Nat.le_refl _) _
    have HP6 : Row ((put6 w2 W.heap.size 0 (.int .i64 0) (.int .i64 0) (.int .i64 0) (.string ⟨#[]⟩) (.slice none 0 0) (.slice none 0 0)).alloc (.cells #[.int .i64 0, .int .i64 0, .int .i64 0, .string ⟨#[]⟩, .slice none 0 0, .slice none 0 0] 28)) W.heap.size [.int .i64 0, .int .i64 0, .int .i64 0, .string ⟨#[]⟩, .slice none 0 0, .slice none 0 0] := (Row.put6 Z2).below hba (by rw [put6_size]; exact hz2)
    have hb9 := R2.base_leU
    have HS10 : Hid (ValS W.heap.size 3 (szD 0) ((put6 w2 W.heap.size 0 (.int .i64 0) (.int .i64 0) (.int .i64 0) (.string ⟨#[]⟩) (.slice none 0 0) (.slice none 0 0)).alloc (.cells #[.int .i64 0, .int .i64 0, .int .i64 0, .string ⟨#[]⟩, .slice none 0 0, .slice none 0 0] 28)) (hdK 0) none 0 .nil ∧ Rd w0 B b a len cap _ ((put6 w2 W.heap.size 0 (.int .i64 0) (.int .i64 0) (.int .i64 0) (.string ⟨#[]⟩) (.slice none 0 0) (.slice none 0 0)).alloc (.cells #[.int .i64 0, .int .i64 0, .int .i64 0, .string ⟨#[]⟩, .slice none 0 0, .slice none 0 0] 28)) ∧ Otb b W ((put6 w2 W.heap.size 0 (.int .i64 0) (.int .i64 0) (.int .i64 0) (.string ⟨#[]⟩) (.slice none 0 0) (.slice none 0 0)).alloc (.cells #[.int .i64 0, .int .i64 0, .int .i64 0, .string ⟨#[]⟩, .slice none 0 0, .slice none 0 0] 28))) := ⟨ValS.blank (Nat.zero_le _), (R2.uptoU hbp hlt (by omega)).below hba, (O2.upto hbp).below hba⟩
    clear hbp hba R2 O2 Z2
    go_wp2_with fail
    show bodyPost Try.prog Try.f46 _ Exit.ret _ ((put6 w2 W.heap.size 0 (.int .i64 0) (.int .i64 0) (.int .i64 0) (.string ⟨#[]⟩) (.slice none 0 0) (.slice none 0 0)).alloc (.cells #[.int .i64 0, .int .i64 0, .int .i64 0, .string ⟨#[]⟩, .slice none 0 0, .slice none 0 0] 28))
    generalize (put6 w2 W.heap.size 0 (.int .i64 0) (.int .i64 0) (.int .i64 0) (.string ⟨#[]⟩) (.slice none 0 0) (.slice none 0 0)).alloc (.cells #[.int .i64 0, .int .i64 0, .int .i64 0, .string ⟨#[]⟩, .slice none 0 0, .slice none 0 0] 28) = W6 at *
    have y0 := (HP6 0 _ rfl).1
    have y1 := (HP6 1 _ rfl).1
    have y2 := (HP6 2 _ rfl).1
    have y3 := (HP6 3 _ rfl).1
    have y4 := (HP6 4 _ rfl).1
    have y5 := (HP6 5 _ rfl).1
    obtain ⟨z1, z2, z3⟩ := HS10.out
    refine bodyPost_ret (v := valV (hdK 0) none Vo.nil.len 0) (by simp [results, Try.results46, go_sem, y0, y1, y2, y3, y4, y5, Vo.len]) rfl ⟨_, _, _, _, _, rfl, z1, (by show _ ≤ p + pkD 0; unfold pkD; omega), z2, z3⟩
  · skip
    obtain ⟨r0, g0⟩ := Z2 0 _ rfl
    obtain ⟨r1, g1⟩ := Z2 1 _ rfl
    obtain ⟨r2, g2⟩ := Z2 2 _ rfl
    obtain ⟨r3, g3⟩ := Z2 3 _ rfl
    obtain ⟨r4, g4⟩ := Z2 4 _ rfl
    obtain ⟨r5, g5⟩ := Z2 5 _ rfl
    have hbp : Below W.heap.size w2 (put6 w2 W.heap.size 0 (.int .i64 1) (.int .i64 0) (.int .i64 0) (.string ⟨#[]⟩) (.slice none 0 0) (.slice none 0 0)) := put6_below (Below.refl _ _) (Nat.le_refl _) _ _ _ _ _ _
    have hba : Below (put6 w2 W.heap.size 0 (.int .i64 1) (.int .i64 0) (.int .i64 0) (.string ⟨#[]⟩) (.slice none 0 0) (.slice none 0 0)).heap.size (put6 w2 W.heap.size 0 (.int .i64 1) (.int .i64 0) (.int .i64 0) (.string ⟨#[]⟩) (.slice none 0 0) (.slice none 0 0)) ((put6 w2 W.heap.size 0 (.int .i64 1) (.int .i64 0) (.int .i64 0) (.string ⟨#[]⟩) (.slice none 0 0) (.slice none 0 0)).alloc (.cells #[.int .i64 1, .int .i64 0, .int .i64 0, .string ⟨#[]⟩, .slice none 0 0, .slice none 0 0] 28)) := (Below.refl _ _).alloc (Nat.le_refl _) _
    have HP6 : Row ((put6 w2 W.heap.size 0 (.int .i64 1) (.int .i64 0) (.int .i64 0) (.string ⟨#[]⟩) (.slice none 0 0) (.slice none 0 0)).alloc (.cells #[.int .i64 1, .int .i64 0, .int .i64 0, .string ⟨#[]⟩, .slice none 0 0, .slice none 0 0] 28)) W.heap.size [.int .i64 1, .int .i64 0, .int .i64 0, .string ⟨#[]⟩, .slice none 0 0, .slice none 0 0] := (Row.put6 Z2).below hba (by rw [put6_size]; exact hz2)
    have hb9 := R2.base_leU
    have HS10 : Hid (ValS W.heap.size 3 (szD 0) ((put6 w2 W.heap.size 0 (.int .i64 1) (.int .i64 0) (.int .i64 0) (.string ⟨#[]⟩) (.slice none 0 0) (.slice none 0 0)).alloc (.cells #[.int .i64 1, .int .i64 0, .int .i64 0, .string ⟨#[]⟩, .slice none 0 0, .slice none 0 0] 28)) (hdK 1) none 0 .nil ∧ Rd w0 B b a len cap _ ((put6 w2 W.heap.size 0 (.int .i64 1) (.int .i64 0) (.int .i64 0) (.string ⟨#[]⟩) (.slice none 0 0) (.slice none 0 0)).alloc (.cells #[.int .i64 1, .int .i64 0, .int .i64 0, .string ⟨#[]⟩, .slice none 0 0, .slice none 0 0] 28)) ∧ Otb b W ((put6 w2 W.heap.size 0 (.int .i64 1) (.int .i64 0) (.int .i64 0) (.string ⟨#[]⟩) (.slice none 0 0) (.slice none 0 0)).alloc (.cells #[.int .i64 1, .int .i64 0, .int .i64 0, .string ⟨#[]⟩, .slice none 0 0, .slice none 0 0] 28))) := ⟨ValS.blank (Nat.zero_le _), (R2.uptoU hbp hlt (by omega)).below hba, (O2.upto hbp).below hba⟩
    clear hbp hba R2 O2 Z2
    go_wp2_with fail
    show bodyPost Try.prog Try.f46 _ Exit.ret _ ((put6 w2 W.heap.size 0 (.int .i64 1) (.int .i64 0) (.int .i64 0) (.string ⟨#[]⟩) (.slice none 0 0) (.slice none 0 0)).alloc (.cells #[.int .i64 1, .int .i64 0, .int .i64 0, .string ⟨#[]⟩, .slice none 0 0, .slice none 0 0] 28))
    generalize (put6 w2 W.heap.size 0 (.int .i64 1) (.int .i64 0) (.int .i64 0) (.string ⟨#[]⟩) (.slice none 0 0) (.slice none 0 0)).alloc (.cells #[.int .i64 1, .int .i64 0, .int .i64 0, .string ⟨#[]⟩, .slice none 0 0, .slice none 0 0] 28) = W6 at *
    have y0 := (HP6 0 _ rfl).1
    have y1 := (HP6 1 _ rfl).1
    have y2 := (HP6 2 _ rfl).1
    have y3 := (HP6 3 _ rfl).1
    have y4 := (HP6 4 _ rfl).1
    have y5 := (HP6 5 _ rfl).1
    obtain ⟨z1, z2, z3⟩ := HS10.out
    refine bodyPost_ret (v := valV (hdK 1) none Vo.nil.len 0) (by simp [results, Try.results46, go_sem, y0, y1, y2, y3, y4, y5, Vo.len]) rfl ⟨_, _, _, _, _, rfl, z1, (by show _ ≤ p + pkD 0; unfold pkD; omega), z2, z3⟩
  · skip
    obtain ⟨r0, g0⟩ := Z2 0 _ rfl
    obtain ⟨r1, g1⟩ := Z2 1 _ rfl
    obtain ⟨r2, g2⟩ := Z2 2 _ rfl
    obtain ⟨r3, g3⟩ := Z2 3 _ rfl
    obtain ⟨r4, g4⟩ := Z2 4 _ rfl
    obtain ⟨r5, g5⟩ := Z2 5 _ rfl
    have hbp : Below W.heap.size w2 (put6 w2 W.heap.size 0 (.int .i64 2) (.int .i64 0) (.int .i64 0) (.string ⟨#[]⟩) (.slice none 0 0) (.slice none 0 0)) := put6_below (Below.refl _ _) (Nat.le_refl _) _ _ _ _ _ _
    have hba : Below (put6 w2 W.heap.size 0 (.int .i64 2) (.int .i64 0) (.int .i64 0) (.string ⟨#[]⟩) (.slice none 0 0) (.slice none 0 0)).heap.size (put6 w2 W.heap.size 0 (.int .i64 2) (.int .i64 0) (.int .i64 0) (.string ⟨#[]⟩) (.slice none 0 0) (.slice none 0 0)) ((put6 w2 W.heap.size 0 (.int .i64 2) (.int .i64 0) (.int .i64 0) (.string ⟨#[]⟩) (.slice none 0 0) (.slice none 0 0)).alloc (.cells #[.int .i64 2, .int .i64 0, .int .i64 0, .string ⟨#[]⟩, .slice none 0 0, .slice none 0 0] 28)) := (Below.refl _ _).alloc (Nat.le_refl _) _
    have HP6 : Row ((put6 w2 W.heap.size 0 (.int .i64 2) (.int .i64 0) (.int .i64 0) (.string ⟨#[]⟩) (.slice none 0 0) (.slice none 0 0)).alloc (.cells #[.int .i64 2, .int .i64 0, .int .i64 0, .string ⟨#[]⟩, .slice none 0 0, .slice none 0 0] 28)) W.heap.size [.int .i64 2, .int .i64 0, .int .i64 0, .string ⟨#[]⟩, .slice none 0 0, .slice none 0 0] := (Row.put6 Z2).below hba (by rw [put6_size]; exact hz2)
    have hb9 := R2.base_leU
    have HS10 : Hid (ValS W.heap.size 3 (szD 0) ((put6 w2 W.heap.size 0 (.int .i64 2) (.int .i64 0) (.int .i64 0) (.string ⟨#[]⟩) (.slice none 0 0) (.slice none 0 0)).alloc (.cells #[.int .i64 2, .int .i64 0, .int .i64 0, .string ⟨#[]⟩, .slice none 0 0, .slice none 0 0] 28)) (hdK 2) none 0 .nil ∧ Rd w0 B b a len cap _ ((put6 w2 W.heap.size 0 (.int .i64 2) (.int .i64 0) (.int .i64 0) (.string ⟨#[]⟩) (.slice none 0 0) (.slice none 0 0)).alloc (.cells #[.int .i64 2, .int .i64 0, .int .i64 0, .string ⟨#[]⟩, .slice none 0 0, .slice none 0 0] 28)) ∧ Otb b W ((put6 w2 W.heap.size 0 (.int .i64 2) (.int .i64 0) (.int .i64 0) (.string ⟨#[]⟩) (.slice none 0 0) (.slice none 0 0)).alloc (.cells #[.int .i64 2, .int .i64 0, .int .i64 0, .string ⟨#[]⟩, .slice none 0 0, .slice none 0 0] 28))) := ⟨ValS.blank (Nat.zero_le _), (R2.uptoU hbp hlt (by omega)).below hba, (O2.upto hbp).below hba⟩
    clear hbp hba R2 O2 Z2
    go_wp2_with fail
    show bodyPost Try.prog Try.f46 _ Exit.ret _ ((put6 w2 W.heap.size 0 (.int .i64 2) (.int .i64 0) (.int .i64 0) (.string ⟨#[]⟩) (.slice none 0 0) (.slice none 0 0)).alloc (.cells #[.int .i64 2, .int .i64 0, .int .i64 0, .string ⟨#[]⟩, .slice none 0 0, .slice none 0 0] 28))
    generalize (put6 w2 W.heap.size 0 (.int .i64 2) (.int .i64 0) (.int .i64 0) (.string ⟨#[]⟩) (.slice none 0 0) (.slice none 0 0)).alloc (.cells #[.int .i64 2, .int .i64 0, .int .i64 0, .string ⟨#[]⟩, .slice none 0 0, .slice none 0 0] 28) = W6 at *
    have y0 := (HP6 0 _ rfl).1
    have y1 := (HP6 1 _ rfl).1
    have y2 := (HP6 2 _ rfl).1
    have y3 := (HP6 3 _ rfl).1
    have y4 := (HP6 4 _ rfl).1
    have y5 := (HP6 5 _ rfl).1
    obtain ⟨z1, z2, z3⟩ := HS10.out
    refine bodyPost_ret (v := valV (hdK 2) none Vo.nil.len 0) (by simp [results, Try.results46, go_sem, y0, y1, y2, y3, y4, y5, Vo.len]) rfl ⟨_, _, _, _, _, rfl, z1, (by show _ ≤ p + pkD 0; unfold pkD; omega), z2, z3⟩
  · skip
    have hbW : Below w2.heap.size w2 (w2.alloc (.cells #[.int .i64 3, .int .i64 0, .int .i64 0, .string ⟨#[]⟩, .slice none 0 0, .slice none 0 0] 28)) := (Below.refl _ _).alloc (Nat.le_refl _) _
    have V3 : Row (w2.alloc (.cells #[.int .i64 3, .int .i64 0, .int .i64 0, .string ⟨#[]⟩, .slice none 0 0, .slice none 0 0] 28)) w2.heap.size (six (hdK 3) none Vo.nil.len 0) := Row.new w2 _ _
    have Z3 := Z2.below hbW hz2
    have R3 := R2.below hbW
    have O3 := O2.alloc (.cells #[.int .i64 3, .int .i64 0, .int .i64 0, .string ⟨#[]⟩, .slice none 0 0, .slice none 0 0] 28)
    obtain ⟨vb, hvb⟩ : ∃ vb, w2.heap.size = vb := ⟨_, rfl⟩
    have hvW : W.heap.size < vb := by omega
    have hvb2 : ¬ vb = b := by omega
    have hsz : vb < (w2.alloc (.cells #[.int .i64 3, .int .i64 0, .int .i64 0, .string ⟨#[]⟩, .slice none 0 0, .slice none 0 0] 28)).heap.size := by rw [← hvb]; simp
    rw [hvb] at V3
    go_wp2_with fail
    (try rw [hvb])
    generalize (w2.alloc (.cells #[.int .i64 3, .int .i64 0, .int .i64 0, .string ⟨#[]⟩, .slice none 0 0, .slice none 0 0] 28)) = W3 at *
    clear hbW hz2 Z2 R2 O2 hvb
    have S3 : ValS (vb + 1) 3 0 W3 (hdK 3) none 0 .nil := ValS.blank (Nat.zero_le _)
    refine (l14Dec_otb R3 (by omega)).mono ?_
    rintro r w4 ⟨m, x, q, rfl, hok, _, _, _, _, hq, R4, O34⟩
    have V4 := V3.otb O34 hvb2
    have Z4 := Z3.otb O34 hne
    have O4 := O3.trans O34
    have hb4 := R4.base_leU
    clear V3 Z3 R3 O3 O34 S3 hok
    obtain ⟨t0, f0⟩ := V4 0 _ rfl
    obtain ⟨t1, f1⟩ := V4 1 _ rfl
    obtain ⟨t2, f2⟩ := V4 2 _ rfl
    obtain ⟨t3, f3⟩ := V4 3 _ rfl
    obtain ⟨t4, f4⟩ := V4 4 _ rfl
    obtain ⟨t5, f5⟩ := V4 5 _ rfl
    have V5 : Row ((w4.setCell ⟨vb, 1, none⟩ (.int .i64 m)).setCell ⟨vb, 2, none⟩ (.int .i64 x)) vb (six (hdNum m x) none Vo.nil.len 0) := (V4.set (i := 1) (by decide) (.int .i64 m)).set (i := 2) (by rw [List.length_set]; decide) (.int .i64 x)
    have Z5 := (Z4.setOther (j := vb) (by omega) 1 (.int .i64 m)).setOther (j := vb) (by omega) 2 (.int .i64 x)
    have R5 := (R4.set (j := vb) (o := 1) (by omega) (by omega) (.int .i64 m)).set (j := vb) (o := 2) (by omega) (by omega) (.int .i64 x)
    have O5 := (O4.set (j := vb) (o := 1) (by omega) (.int .i64 m)).set (j := vb) (o := 2) (by omega) (.int .i64 x)
    have S5 : ValS (vb + 1) 3 0 ((w4.setCell ⟨vb, 1, none⟩ (.int .i64 m)).setCell ⟨vb, 2, none⟩ (.int .i64 x)) (hdNum m x) none 0 .nil := ValS.blank (Nat.zero_le _)
    have E : EndS w0 B b a len cap _ W vb 0 (hdNum m x) none 0 .nil _ := ⟨V5, Z5, S5, R5, O5⟩
    clear V4 Z4 R4 O4 V5 Z5 S5 R5 O5
    obtain ⟨V9, Z9, S9, R9, O9⟩ := E
    obtain ⟨r0, g0⟩ := Z9 0 _ rfl
    obtain ⟨r1, g1⟩ := Z9 1 _ rfl
    obtain ⟨r2, g2⟩ := Z9 2 _ rfl
    obtain ⟨r3, g3⟩ := Z9 3 _ rfl
    obtain ⟨r4, g4⟩ := Z9 4 _ rfl
    obtain ⟨r5, g5⟩ := Z9 5 _ rfl
    have s0 := (V9 0 _ rfl).1
    have s1 := (V9 1 _ rfl).1
    have s2 := (V9 2 _ rfl).1
    have s3 := (V9 3 _ rfl).1
    have s4 := (V9 4 _ rfl).1
    have s5 := (V9 5 _ rfl).1
    clear s0 s1 s2 s3 s4 s5
    have HP6 := Row.put6 (v0 := .int .i64 ((hdNum m x)).k) (v1 := .int .i64 ((hdNum m x)).m) (v2 := .int .i64 ((hdNum m x)).e) (v3 := .string ((hdNum m x)).t) (v4 := .slice none (Vo.nil).len 0) (v5 := .slice ((hdNum m x)).na ((hdNum m x)).ns.length ((hdNum m x)).nc) Z9
    have HO6 := Otr.put6 b (j := W.heap.size) (o := 0) ((w4.setCell ⟨vb, 1, none⟩ (.int .i64 m)).setCell ⟨vb, 2, none⟩ (.int .i64 x)) (.int .i64 ((hdNum m x)).k) (.int .i64 ((hdNum m x)).m) (.int .i64 ((hdNum m x)).e) (.string ((hdNum m x)).t) (.slice none (Vo.nil).len 0) (.slice ((hdNum m x)).na ((hdNum m x)).ns.length ((hdNum m x)).nc)
    have hb9 := R9.base_leU
    have S10 := S9.otr HO6 (by omega) (fun g hg => by cases hg; omega)
    have R10 := R9.uptoU (put6_below (B := W.heap.size) (nb := W.heap.size) (o := 0) (Below.refl _ ((w4.setCell ⟨vb, 1, none⟩ (.int .i64 m)).setCell ⟨vb, 2, none⟩ (.int .i64 x))) (Nat.le_refl _) (.int .i64 ((hdNum m x)).k) (.int .i64 ((hdNum m x)).m) (.int .i64 ((hdNum m x)).e) (.string ((hdNum m x)).t) (.slice none (Vo.nil).len 0) (.slice ((hdNum m x)).na ((hdNum m x)).ns.length ((hdNum m x)).nc)) hlt (by omega)
    have O10 := O9.upto (put6_below (B := W.heap.size) (nb := W.heap.size) (o := 0) (Below.refl _ ((w4.setCell ⟨vb, 1, none⟩ (.int .i64 m)).setCell ⟨vb, 2, none⟩ (.int .i64 x))) (Nat.le_refl _) (.int .i64 ((hdNum m x)).k) (.int .i64 ((hdNum m x)).m) (.int .i64 ((hdNum m x)).e) (.string ((hdNum m x)).t) (.slice none (Vo.nil).len 0) (.slice ((hdNum m x)).na ((hdNum m x)).ns.length ((hdNum m x)).nc))
    have HS10 : Hid (ValS W.heap.size 3 (szD 0) (put6 ((w4.setCell ⟨vb, 1, none⟩ (.int .i64 m)).setCell ⟨vb, 2, none⟩ (.int .i64 x)) W.heap.size 0 (.int .i64 ((hdNum m x)).k) (.int .i64 ((hdNum m x)).m) (.int .i64 ((hdNum m x)).e) (.string ((hdNum m x)).t) (.slice none (Vo.nil).len 0) (.slice ((hdNum m x)).na ((hdNum m x)).ns.length ((hdNum m x)).nc)) ((hdNum m x)) none 0 .nil ∧ Rd w0 B b a len cap _ (put6 ((w4.setCell ⟨vb, 1, none⟩ (.int .i64 m)).setCell ⟨vb, 2, none⟩ (.int .i64 x)) W.heap.size 0 (.int .i64 ((hdNum m x)).k) (.int .i64 ((hdNum m x)).m) (.int .i64 ((hdNum m x)).e) (.string ((hdNum m x)).t) (.slice none (Vo.nil).len 0) (.slice ((hdNum m x)).na ((hdNum m x)).ns.length ((hdNum m x)).nc)) ∧ Otb b W (put6 ((w4.setCell ⟨vb, 1, none⟩ (.int .i64 m)).setCell ⟨vb, 2, none⟩ (.int .i64 x)) W.heap.size 0 (.int .i64 ((hdNum m x)).k) (.int .i64 ((hdNum m x)).m) (.int .i64 ((hdNum m x)).e) (.string ((hdNum m x)).t) (.slice none (Vo.nil).len 0) (.slice ((hdNum m x)).na ((hdNum m x)).ns.length ((hdNum m x)).nc))) := ⟨S10.mono (by omega) (Nat.le_refl _) (Nat.zero_le _), R10, O10⟩
    clear V9 Z9 S9 R9 O9 HO6 S10 R10 O10
    go_wp2_with fail
    show bodyPost Try.prog Try.f46 _ Exit.ret _ (put6 ((w4.setCell ⟨vb, 1, none⟩ (.int .i64 m)).setCell ⟨vb, 2, none⟩ (.int .i64 x)) W.heap.size 0 (.int .i64 ((hdNum m x)).k) (.int .i64 ((hdNum m x)).m) (.int .i64 ((hdNum m x)).e) (.string ((hdNum m x)).t) (.slice none (Vo.nil).len 0) (.slice ((hdNum m x)).na ((hdNum m x)).ns.length ((hdNum m x)).nc))
    generalize put6 ((w4.setCell ⟨vb, 1, none⟩ (.int .i64 m)).setCell ⟨vb, 2, none⟩ (.int .i64 x)) W.heap.size 0 (.int .i64 ((hdNum m x)).k) (.int .i64 ((hdNum m x)).m) (.int .i64 ((hdNum m x)).e) (.string ((hdNum m x)).t) (.slice none (Vo.nil).len 0) (.slice ((hdNum m x)).na ((hdNum m x)).ns.length ((hdNum m x)).nc) = W6 at *
    have y0 := (HP6 0 _ rfl).1
    have y1 := (HP6 1 _ rfl).1
    have y2 := (HP6 2 _ rfl).1
    have y3 := (HP6 3 _ rfl).1
    have y4 := (HP6 4 _ rfl).1
    have y5 := (HP6 5 _ rfl).1
    obtain ⟨z1, z2, z3⟩ := HS10.out
    refine bodyPost_ret (v := valV ((hdNum m x)) none (Vo.nil).len 0) (by simp [results, Try.results46, go_sem, y0, y1, y2, y3, y4, y5]) rfl ⟨_, _, _, _, _, rfl, z1, (by show _ ≤ p + pkD 0; unfold pkD; omega), z2, z3⟩
  · skip
    have hbW : Below w2.heap.size w2 (w2.alloc (.cells #[.int .i64 4, .int .i64 0, .int .i64 0, .string ⟨#[]⟩, .slice none 0 0, .slice none 0 0] 28)) := (Below.refl _ _).alloc (Nat.le_refl _) _
    have V3 : Row (w2.alloc (.cells #[.int .i64 4, .int .i64 0, .int .i64 0, .string ⟨#[]⟩, .slice none 0 0, .slice none 0 0] 28)) w2.heap.size (six (hdK 4) none Vo.nil.len 0) := Row.new w2 _ _
    have Z3 := Z2.below hbW hz2
    have R3 := R2.below hbW
    have O3 := O2.alloc (.cells #[.int .i64 4, .int .i64 0, .int .i64 0, .string ⟨#[]⟩, .slice none 0 0, .slice none 0 0] 28)
    obtain ⟨vb, hvb⟩ : ∃ vb, w2.heap.size = vb := ⟨_, rfl⟩
    have hvW : W.heap.size < vb := by omega
    have hvb2 : ¬ vb = b := by omega
    have hsz : vb < (w2.alloc (.cells #[.int .i64 4, .int .i64 0, .int .i64 0, .string ⟨#[]⟩, .slice none 0 0, .slice none 0 0] 28)).heap.size := by rw [← hvb]; simp
    rw [hvb] at V3
    go_wp2_with fail
    (try rw [hvb])
    generalize (w2.alloc (.cells #[.int .i64 4, .int .i64 0, .int .i64 0, .string ⟨#[]⟩, .slice none 0 0, .slice none 0 0] 28)) = W3 at *
    clear hbW hz2 Z2 R2 O2 hvb
    have S3 : ValS (vb + 1) 3 0 W3 (hdK 4) none 0 .nil := ValS.blank (Nat.zero_le _)
    refine (l14Bytes_otb R3 (by omega)).mono ?_
    rintro r w4 ⟨s, q, rfl, hs, hq, R4, O34⟩
    have V4 := V3.otb O34 hvb2
    have Z4 := Z3.otb O34 hne
    have O4 := O3.trans O34
    have hb4 := R4.base_leU
    clear V3 Z3 R3 O3 O34 S3
    obtain ⟨t0, f0⟩ := V4 0 _ rfl
    obtain ⟨t1, f1⟩ := V4 1 _ rfl
    obtain ⟨t2, f2⟩ := V4 2 _ rfl
    obtain ⟨t3, f3⟩ := V4 3 _ rfl
    obtain ⟨t4, f4⟩ := V4 4 _ rfl
    obtain ⟨t5, f5⟩ := V4 5 _ rfl
    have V5 : Row (w4.setCell ⟨vb, 3, none⟩ (.string s)) vb (six (hdTxt s) none Vo.nil.len 0) := V4.set (i := 3) (by decide) (.string s)
    have Z5 := Z4.setOther (j := vb) (by omega) 3 (.string s)
    have R5 := R4.set (j := vb) (o := 3) (by omega) (by omega) (.string s)
    have O5 := O4.set (j := vb) (o := 3) (by omega) (.string s)
    have S5 : ValS (vb + 1) 3 0 (w4.setCell ⟨vb, 3, none⟩ (.string s)) (hdTxt s) none 0 .nil := ValS.blank hs
    have E : EndS w0 B b a len cap _ W vb 0 (hdTxt s) none 0 .nil _ := ⟨V5, Z5, S5, R5, O5⟩
    clear V4 Z4 R4 O4 V5 Z5 S5 R5 O5
    obtain ⟨V9, Z9, S9, R9, O9⟩ := E
    obtain ⟨r0, g0⟩ := Z9 0 _ rfl
    obtain ⟨r1, g1⟩ := Z9 1 _ rfl
    obtain ⟨r2, g2⟩ := Z9 2 _ rfl
    obtain ⟨r3, g3⟩ := Z9 3 _ rfl
    obtain ⟨r4, g4⟩ := Z9 4 _ rfl
    obtain ⟨r5, g5⟩ := Z9 5 _ rfl
    have s0 := (V9 0 _ rfl).1
    have s1 := (V9 1 _ rfl).1
    have s2 := (V9 2 _ rfl).1
    have s3 := (V9 3 _ rfl).1
    have s4 := (V9 4 _ rfl).1
    have s5 := (V9 5 _ rfl).1
    clear s0 s1 s2 s3 s4 s5
    have HP6 := Row.put6 (v0 := .int .i64 ((hdTxt s)).k) (v1 := .int .i64 ((hdTxt s)).m) (v2 := .int .i64 ((hdTxt s)).e) (v3 := .string ((hdTxt s)).t) (v4 := .slice none (Vo.nil).len 0) (v5 := .slice ((hdTxt s)).na ((hdTxt s)).ns.length ((hdTxt s)).nc) Z9
    have HO6 := Otr.put6 b (j := W.heap.size) (o := 0) (w4.setCell ⟨vb, 3, none⟩ (.string s)) (.int .i64 ((hdTxt s)).k) (.int .i64 ((hdTxt s)).m) (.int .i64 ((hdTxt s)).e) (.string ((hdTxt s)).t) (.slice none (Vo.nil).len 0) (.slice ((hdTxt s)).na ((hdTxt s)).ns.length ((hdTxt s)).nc)
    have hb9 := R9.base_leU
    have S10 := S9.otr HO6 (by omega) (fun g hg => by cases hg; omega)
    have R10 := R9.uptoU (put6_below (B := W.heap.size) (nb := W.heap.size) (o := 0) (Below.refl _ (w4.setCell ⟨vb, 3, none⟩ (.string s))) (Nat.le_refl _) (.int .i64 ((hdTxt s)).k) (.int .i64 ((hdTxt s)).m) (.int .i64 ((hdTxt s)).e) (.string ((hdTxt s)).t) (.slice none (Vo.nil).len 0) (.slice ((hdTxt s)).na ((hdTxt s)).ns.length ((hdTxt s)).nc)) hlt (by omega)
    have O10 := O9.upto (put6_below (B := W.heap.size) (nb := W.heap.size) (o := 0) (Below.refl _ (w4.setCell ⟨vb, 3, none⟩ (.string s))) (Nat.le_refl _) (.int .i64 ((hdTxt s)).k) (.int .i64 ((hdTxt s)).m) (.int .i64 ((hdTxt s)).e) (.string ((hdTxt s)).t) (.slice none (Vo.nil).len 0) (.slice ((hdTxt s)).na ((hdTxt s)).ns.length ((hdTxt s)).nc))
    have HS10 : Hid (ValS W.heap.size 3 (szD 0) (put6 (w4.setCell ⟨vb, 3, none⟩ (.string s)) W.heap.size 0 (.int .i64 ((hdTxt s)).k) (.int .i64 ((hdTxt s)).m) (.int .i64 ((hdTxt s)).e) (.string ((hdTxt s)).t) (.slice none (Vo.nil).len 0) (.slice ((hdTxt s)).na ((hdTxt s)).ns.length ((hdTxt s)).nc)) ((hdTxt s)) none 0 .nil ∧ Rd w0 B b a len cap _ (put6 (w4.setCell ⟨vb, 3, none⟩ (.string s)) W.heap.size 0 (.int .i64 ((hdTxt s)).k) (.int .i64 ((hdTxt s)).m) (.int .i64 ((hdTxt s)).e) (.string ((hdTxt s)).t) (.slice none (Vo.nil).len 0) (.slice ((hdTxt s)).na ((hdTxt s)).ns.length ((hdTxt s)).nc)) ∧ Otb b W (put6 (w4.setCell ⟨vb, 3, none⟩ (.string s)) W.heap.size 0 (.int .i64 ((hdTxt s)).k) (.int .i64 ((hdTxt s)).m) (.int .i64 ((hdTxt s)).e) (.string ((hdTxt s)).t) (.slice none (Vo.nil).len 0) (.slice ((hdTxt s)).na ((hdTxt s)).ns.length ((hdTxt s)).nc))) := ⟨S10.mono (by omega) (Nat.le_refl _) (Nat.zero_le _), R10, O10⟩
    clear V9 Z9 S9 R9 O9 HO6 S10 R10 O10
    go_wp2_with fail
    show bodyPost Try.prog Try.f46 _ Exit.ret _ (put6 (w4.setCell ⟨vb, 3, none⟩ (.string s)) W.heap.size 0 (.int .i64 ((hdTxt s)).k) (.int .i64 ((hdTxt s)).m) (.int .i64 ((hdTxt s)).e) (.string ((hdTxt s)).t) (.slice none (Vo.nil).len 0) (.slice ((hdTxt s)).na ((hdTxt s)).ns.length ((hdTxt s)).nc))
    generalize put6 (w4.setCell ⟨vb, 3, none⟩ (.string s)) W.heap.size 0 (.int .i64 ((hdTxt s)).k) (.int .i64 ((hdTxt s)).m) (.int .i64 ((hdTxt s)).e) (.string ((hdTxt s)).t) (.slice none (Vo.nil).len 0) (.slice ((hdTxt s)).na ((hdTxt s)).ns.length ((hdTxt s)).nc) = W6 at *
    have y0 := (HP6 0 _ rfl).1
    have y1 := (HP6 1 _ rfl).1
    have y2 := (HP6 2 _ rfl).1
    have y3 := (HP6 3 _ rfl).1
    have y4 := (HP6 4 _ rfl).1
    have y5 := (HP6 5 _ rfl).1
    obtain ⟨z1, z2, z3⟩ := HS10.out
    refine bodyPost_ret (v := valV ((hdTxt s)) none (Vo.nil).len 0) (by simp [results, Try.results46, go_sem, y0, y1, y2, y3, y4, y5]) rfl ⟨_, _, _, _, _, rfl, z1, (by show _ ≤ p + pkD 0; unfold pkD; omega), z2, z3⟩
set_option maxRecDepth 100000 in
set_option maxHeartbeats 300000 in
theorem l14Value_next {w0 : World} {B b : Nat} {a : Option Addr} {len cap d : Nat} (hd : d ≤ 900) (H : DrawC w0 B b a len cap d) : DrawC w0 B b a len cap (d + 1) := by
  intro p W hR hp
  obtain ⟨D, hD⟩ : ∃ D : Int, D = (d : Int) + 1 := ⟨_, rfl⟩
  have hd0 : ¬ D ≤ 0 := by omega
  have HDD : Hid (D = (d : Int) + 1) := hD
  rw [show ((((d + 1 : Nat)) : Int)) = D by omega]
  clear hD
  have HP : Hid (pkD (d + 1) = 30 + 3 * (pkD d + 4)) := rfl
  have hp1 : p + 30 + 3 * (pkD d + 4) ≤ 80000 := by have := HP.out; omega
  clear hp
  have hlt := hR.lt
  have hne : ¬ W.heap.size = b := by omega
  have Z0 : Row (W.alloc (.cells #[.int .i64 0, .int .i64 0, .int .i64 0, .string ⟨#[]⟩, .slice none 0 0, .slice none 0 0] 28)) W.heap.size zero6 := Row.new W zero6 28
  have R0 := hR.below ((Below.refl _ W).alloc (Nat.le_refl _) (.cells #[.int .i64 0, .int .i64 0, .int .i64 0, .string ⟨#[]⟩, .slice none 0 0, .slice none 0 0] 28))
  have O0 := (Otb.refl b W).alloc (.cells #[.int .i64 0, .int .i64 0, .int .i64 0, .string ⟨#[]⟩, .slice none 0 0, .slice none 0 0] 28)
  have hz0 : W.heap.size < (W.alloc (.cells #[.int .i64 0, .int .i64 0, .int .i64 0, .string ⟨#[]⟩, .slice none 0 0, .slice none 0 0] 28)).heap.size := by simp
  clear hR
  go_enter Try.func46, Try.ntmps46
  go_wp2_with fail
  generalize W.alloc (.cells #[.int .i64 0, .int .i64 0, .int .i64 0, .string ⟨#[]⟩, .slice none 0 0, .slice none 0 0] 28) = W1 at *
  refine (pick_any 7 R0 (by omega) (by omega) (by omega)).mono ?_
  rintro r w1 ⟨⟨k0, rfl, k00, k01⟩, s1⟩
  have R1 := R0.step s1
  have Z1 : Row w1 W.heap.size zero6 := Row.otb ((Otb.refl b W1).stepped s1) hne Z0
  have O1 := O0.stepped s1
  have hz1 : W.heap.size < w1.heap.size := by rw [s1.other.2.2]; exact hz0
  clear Z0 R0 O0 hz0 s1
  obtain ⟨k, hk⟩ : ∃ k, k0 = k := ⟨_, rfl⟩
  subst hk
  have R2 := R1
  have Z2 := Z1
  have O2 := O1
  have hz2 := hz1
  have k10 := k00
  have k11 := k01
  obtain ⟨w2, hw2⟩ : ∃ w2, w1 = w2 := ⟨_, rfl⟩
  subst hw2
  clear R1 Z1 O1 hz1 k00 k01
  rcases pick7 k10 k11 with rfl | rfl | rfl | rfl | rfl | rfl | rfl
  · skip
    obtain ⟨r0, g0⟩ := Z2 0 _ rfl
    obtain ⟨r1, g1⟩ := Z2 1 _ rfl
    obtain ⟨r2, g2⟩ := Z2 2 _ rfl
    obtain ⟨r3, g3⟩ := Z2 3 _ rfl
    obtain ⟨r4, g4⟩ := Z2 4 _ rfl
    obtain ⟨r5, g5⟩ := Z2 5 _ rfl
    have hbp : Below W.heap.size w1 (put6 w1 W.heap.size 0 (.int .i64 0) (.int .i64 0) (.int .i64 0) (.string ⟨#[]⟩) (.slice none 0 0) (.slice none 0 0)) := put6_below (Below.refl _ _) (Nat.le_refl _) _ _ _ _ _ _
    have hba : Below (put6 w1 W.heap.size 0 (.int .i64 0) (.int .i64 0) (.int .i64 0) (.string ⟨#[]⟩) (.slice none 0 0) (.slice none 0 0)).heap.size (put6 w1 W.heap.size 0 (.int .i64 0) (.int .i64 0) (.int .i64 0) (.string ⟨#[]⟩) (.slice none 0 0) (.slice none 0 0)) ((put6 w1 W.heap.size 0 (.int .i64 0) (.int .i64 0) (.int .i64 0) (.string ⟨#[]⟩) (.slice none 0 0) (.slice none 0 0)).alloc (.cells #[.int .i64 0, .int .i64 0, .int .i64 0, .string ⟨#[]⟩, .slice none 0 0, .slice none 0 0] 28)) := (Below.refl _ _).alloc (Nat.le_refl _) _
    have HP6 : Row ((put6 w1 W.heap.size 0 (.int .i64 0) (.int .i64 0) (.int .i64 0) (.string ⟨#[]⟩) (.slice none 0 0) (.slice none 0 0)).alloc (.cells #[.int .i64 0, .int .i64 0, .int .i64 0, .string ⟨#[]⟩, .slice none 0 0, .slice none 0 0] 28)) W.heap.size [.int .i64 0, .int .i64 0, .int .i64 0, .string ⟨#[]⟩, .slice none 0 0, .slice none 0 0] := (Row.put6 Z2).below hba (by rw [put6_size]; exact hz2)
    have hb9 := R2.base_leU
    have HS10 : Hid (ValS W.heap.size 3 (szD (d + 1)) ((put6 w1 W.heap.size 0 (.int .i64 0) (.int .i64 0) (.int .i64 0) (.string ⟨#[]⟩) (.slice none 0 0) (.slice none 0 0)).alloc (.cells #[.int .i64 0, .int .i64 0, .int .i64 0, .string ⟨#[]⟩, .slice none 0 0, .slice none 0 0] 28)) (hdK 0) none 0 .nil ∧ Rd w0 B b a len cap _ ((put6 w1 W.heap.size 0 (.int .i64 0) (.int .i64 0) (.int .i64 0) (.string ⟨#[]⟩) (.slice none 0 0) (.slice none 0 0)).alloc (.cells #[.int .i64 0, .int .i64 0, .int .i64 0, .string ⟨#[]⟩, .slice none 0 0, .slice none 0 0] 28)) ∧ Otb b W ((put6 w1 W.heap.size 0 (.int .i64 0) (.int .i64 0) (.int .i64 0) (.string ⟨#[]⟩) (.slice none 0 0) (.slice none 0 0)).alloc (.cells #[.int .i64 0, .int .i64 0, .int .i64 0, .string ⟨#[]⟩, .slice none 0 0, .slice none 0 0] 28))) := ⟨ValS.blank (Nat.zero_le _), (R2.uptoU hbp hlt (by omega)).below hba, (O2.upto hbp).below hba⟩
    clear hbp hba R2 O2 Z2
    go_wp2_with fail
    show bodyPost Try.prog Try.f46 _ Exit.ret _ ((put6 w1 W.heap.size 0 (.int .i64 0) (.int .i64 0) (.int .i64 0) (.string ⟨#[]⟩) (.slice none 0 0) (.slice none 0 0)).alloc (.cells #[.int .i64 0, .int .i64 0, .int .i64 0, .string ⟨#[]⟩, .slice none 0 0, .slice none 0 0] 28))
    generalize (put6 w1 W.heap.size 0 (.int .i64 0) (.int .i64 0) (.int .i64 0) (.string ⟨#[]⟩) (.slice none 0 0) (.slice none 0 0)).alloc (.cells #[.int .i64 0, .int .i64 0, .int .i64 0, .string ⟨#[]⟩, .slice none 0 0, .slice none 0 0] 28) = W6 at *
    have y0 := (HP6 0 _ rfl).1
    have y1 := (HP6 1 _ rfl).1
    have y2 := (HP6 2 _ rfl).1
    have y3 := (HP6 3 _ rfl).1
    have y4 := (HP6 4 _ rfl).1
    have y5 := (HP6 5 _ rfl).1
    obtain ⟨z1, z2, z3⟩ := HS10.out
    refine bodyPost_ret (v := valV (hdK 0) none Vo.nil.len 0) (by simp [results, Try.results46, go_sem, y0, y1, y2, y3, y4, y5, Vo.len]) rfl ⟨_, _, _, _, _, rfl, z1, (by show _ ≤ p + pkD (d + 1); have := HP.out; omega), z2, z3⟩
  · skip
    obtain ⟨r0, g0⟩ := Z2 0 _ rfl
    obtain ⟨r1, g1⟩ := Z2 1 _ rfl
    obtain ⟨r2, g2⟩ := Z2 2 _ rfl
    obtain ⟨r3, g3⟩ := Z2 3 _ rfl
    obtain ⟨r4, g4⟩ := Z2 4 _ rfl
    obtain ⟨r5, g5⟩ := Z2 5 _ rfl
    have hbp : Below W.heap.size w1 (put6 w1 W.heap.size 0 (.int .i64 1) (.int .i64 0) (.int .i64 0) (.string ⟨#[]⟩) (.slice none 0 0) (.slice none 0 0)) := put6_below (Below.refl _ _) (Nat.le_refl _) _ _ _ _ _ _
    have hba : Below (put6 w1 W.heap.size 0 (.int .i64 1) (.int .i64 0) (.int .i64 0) (.string ⟨#[]⟩) (.slice none 0 0) (.slice none 0 0)).heap.size (put6 w1 W.heap.size 0 (.int .i64 1) (.int .i64 0) (.int .i64 0) (.string ⟨#[]⟩) (.slice none 0 0) (.slice none 0 0)) ((put6 w1 W.heap.size 0 (.int .i64 1) (.int .i64 0) (.int .i64 0) (.string ⟨#[]⟩) (.slice none 0 0) (.slice none 0 0)).alloc (.cells #[.int .i64 1, .int .i64 0, .int .i64 0, .string ⟨#[]⟩, .slice none 0 0, .slice none 0 0] 28)) := (Below.refl _ _).alloc (Nat.le_refl _) _
    have HP6 : Row ((put6 w1 W.heap.size 0 (.int .i64 1) (.int .i64 0) (.int .i64 0) (.string ⟨#[]⟩) (.slice none 0 0) (.slice none 0 0)).alloc (.cells #[.int .i64 1, .int .i64 0, .int .i64 0, .string ⟨#[]⟩, .slice none 0 0, .slice none 0 0] 28)) W.heap.size [.int .i64 1, .int .i64 0, .int .i64 0, .string ⟨#[]⟩, .slice none 0 0, .slice none 0 0] := (Row.put6 Z2).below hba (by rw [put6_size]; exact hz2)
    have hb9 := R2.base_leU
    have HS10 : Hid (ValS W.heap.size 3 (szD (d + 1)) ((put6 w1 W.heap.size 0 (.int .i64 1) (.int .i64 0) (.int .i64 0) (.string ⟨#[]⟩) (.slice none 0 0) (.slice none 0 0)).alloc (.cells #[.int .i64 1, .int .i64 0, .int .i64 0, .string ⟨#[]⟩, .slice none 0 0, .slice none 0 0] 28)) (hdK 1) none 0 .nil ∧ Rd w0 B b a len cap _ ((put6 w1 W.heap.size 0 (.int .i64 1) (.int .i64 0) (.int .i64 0) (.string ⟨#[]⟩) (.slice none 0 0) (.slice none 0 0)).alloc (.cells #[.int .i64 1, .int .i64 0, .int .i64 0, .string ⟨#[]⟩, .slice none 0 0, .slice none 0 0] 28)) ∧ Otb b W ((put6 w1 W.heap.size 0 (.int .i64 1) (.int .i64 0) (.int .i64 0) (.string ⟨#[]⟩) (.slice none 0 0) (.slice none 0 0)).alloc (.cells #[.int .i64 1, .int .i64 0, .int .i64 0, .string ⟨#[]⟩, .slice none 0 0, .slice none 0 0] 28))) := ⟨ValS.blank (Nat.zero_le _), (R2.uptoU hbp hlt (by omega)).below hba, (O2.upto hbp).below hba⟩
    clear hbp hba R2 O2 Z2
    go_wp2_with fail
    show bodyPost Try.prog Try.f46 _ Exit.ret _ ((put6 w1 W.heap.size 0 (.int .i64 1) (.int .i64 0) (.int .i64 0) (.string ⟨#[]⟩) (.slice none 0 0) (.slice none 0 0)).alloc (.cells #[.int .i64 1, .int .i64 0, .int .i64 0, .string ⟨#[]⟩, .slice none 0 0, .slice none 0 0] 28))
    generalize (put6 w1 W.heap.size 0 (.int .i64 1) (.int .i64 0) (.int .i64 0) (.string ⟨#[]⟩) (.slice none 0 0) (.slice none 0 0)).alloc (.cells #[.int .i64 1, .int .i64 0, .int .i64 0, .string ⟨#[]⟩, .slice none 0 0, .slice none 0 0] 28) = W6 at *
    have y0 := (HP6 0 _ rfl).1
    have y1 := (HP6 1 _ rfl).1
    have y2 := (HP6 2 _ rfl).1
    have y3 := (HP6 3 _ rfl).1
    have y4 := (HP6 4 _ rfl).1
    have y5 := (HP6 5 _ rfl).1
    obtain ⟨z1, z2, z3⟩ := HS10.out
    refine bodyPost_ret (v := valV (hdK 1) none Vo.nil.len 0) (by simp [results, Try.results46, go_sem, y0, y1, y2, y3, y4, y5, Vo.len]) rfl ⟨_, _, _, _, _, rfl, z1, (by show _ ≤ p + pkD (d + 1); have := HP.out; omega), z2, z3⟩
  · skip
    obtain ⟨r0, g0⟩ := Z2 0 _ rfl
    obtain ⟨r1, g1⟩ := Z2 1 _ rfl
    obtain ⟨r2, g2⟩ := Z2 2 _ rfl
    obtain ⟨r3, g3⟩ := Z2 3 _ rfl
    obtain ⟨r4, g4⟩ := Z2 4 _ rfl
    obtain ⟨r5, g5⟩ := Z2 5 _ rfl
    have hbp : Below W.heap.size w1 (put6 w1 W.heap.size 0 (.int .i64 2) (.int .i64 0) (.int .i64 0) (.string ⟨#[]⟩) (.slice none 0 0) (.slice none 0 0)) := put6_below (Below.refl _ _) (Nat.le_refl _) _ _ _ _ _ _
    have hba : Below (put6 w1 W.heap.size 0 (.int .i64 2) (.int .i64 0) (.int .i64 0) (.string ⟨#[]⟩) (.slice none 0 0) (.slice none 0 0)).heap.size (put6 w1 W.heap.size 0 (.int .i64 2) (.int .i64 0) (.int .i64 0) (.string ⟨#[]⟩) (.slice none 0 0) (.slice none 0 0)) ((put6 w1 W.heap.size 0 (.int .i64 2) (.int .i64 0) (.int .i64 0) (.string ⟨#[]⟩) (.slice none 0 0) (.slice none 0 0)).alloc (.cells #[.int .i64 2, .int .i64 0, .int .i64 0, .string ⟨#[]⟩, .slice none 0 0, .slice none 0 0] 28)) := (Below.refl _ _).alloc (Nat.le_refl _) _
    have HP6 : Row ((put6 w1 W.heap.size 0 (.int .i64 2) (.int .i64 0) (.int .i64 0) (.string ⟨#[]⟩) (.slice none 0 0) (.slice none 0 0)).alloc (.cells #[.int .i64 2, .int .i64 0, .int .i64 0, .string ⟨#[]⟩, .slice none 0 0, .slice none 0 0] 28)) W.heap.size [.int .i64 2, .int .i64 0, .int .i64 0, .string ⟨#[]⟩, .slice none 0 0, .slice none 0 0] := (Row.put6 Z2).below hba (by rw [put6_size]; exact hz2)
    have hb9 := R2.base_leU
    have HS10 : Hid (ValS W.heap.size 3 (szD (d + 1)) ((put6 w1 W.heap.size 0 (.int .i64 2) (.int .i64 0) (.int .i64 0) (.string ⟨#[]⟩) (.slice none 0 0) (.slice none 0 0)).alloc (.cells #[.int .i64 2, .int .i64 0, .int .i64 0, .string ⟨#[]⟩, .slice none 0 0, .slice none 0 0] 28)) (hdK 2) none 0 .nil ∧ Rd w0 B b a len cap _ ((put6 w1 W.heap.size 0 (.int .i64 2) (.int .i64 0) (.int .i64 0) (.string ⟨#[]⟩) (.slice none 0 0) (.slice none 0 0)).alloc (.cells #[.int .i64 2, .int .i64 0, .int .i64 0, .string ⟨#[]⟩, .slice none 0 0, .slice none 0 0] 28)) ∧ Otb b W ((put6 w1 W.heap.size 0 (.int .i64 2) (.int .i64 0) (.int .i64 0) (.string ⟨#[]⟩) (.slice none 0 0) (.slice none 0 0)).alloc (.cells #[.int .i64 2, .int .i64 0, .int .i64 0, .string ⟨#[]⟩, .slice none 0 0, .slice none 0 0] 28))) := ⟨ValS.blank (Nat.zero_le _), (R2.uptoU hbp hlt (by omega)).below hba, (O2.upto hbp).below hba⟩
    clear hbp hba R2 O2 Z2
    go_wp2_with fail
    show bodyPost Try.prog Try.f46 _ Exit.ret _ ((put6 w1 W.heap.size 0 (.int .i64 2) (.int .i64 0) (.int .i64 0) (.string ⟨#[]⟩) (.slice none 0 0) (.slice none 0 0)).alloc (.cells #[.int .i64 2, .int .i64 0, .int .i64 0, .string ⟨#[]⟩, .slice none 0 0, .slice none 0 0] 28))
    generalize (put6 w1 W.heap.size 0 (.int .i64 2) (.int .i64 0) (.int .i64 0) (.string ⟨#[]⟩) (.slice none 0 0) (.slice none 0 0)).alloc (.cells #[.int .i64 2, .int .i64 0, .int .i64 0, .string ⟨#[]⟩, .slice none 0 0, .slice none 0 0] 28) = W6 at *
    have y0 := (HP6 0 _ rfl).1
    have y1 := (HP6 1 _ rfl).1
    have y2 := (HP6 2 _ rfl).1
    have y3 := (HP6 3 _ rfl).1
    have y4 := (HP6 4 _ rfl).1
    have y5 := (HP6 5 _ rfl).1
    obtain ⟨z1, z2, z3⟩ := HS10.out
    refine bodyPost_ret (v := valV (hdK 2) none Vo.nil.len 0) (by simp [results, Try.results46, go_sem, y0, y1, y2, y3, y4, y5, Vo.len]) rfl ⟨_, _, _, _, _, rfl, z1, (by show _ ≤ p + pkD (d + 1); have := HP.out; omega), z2, z3⟩
  · skip
    have hbW : Below w1.heap.size w1 (w1.alloc (.cells #[.int .i64 3, .int .i64 0, .int .i64 0, .string ⟨#[]⟩, .slice none 0 0, .slice none 0 0] 28)) := (Below.refl _ _).alloc (Nat.le_refl _) _
    have V3 : Row (w1.alloc (.cells #[.int .i64 3, .int .i64 0, .int .i64 0, .string ⟨#[]⟩, .slice none 0 0, .slice none 0 0] 28)) w1.heap.size (six (hdK 3) none Vo.nil.len 0) := Row.new w1 _ _
    have Z3 := Z2.below hbW hz2
    have R3 := R2.below hbW
    have O3 := O2.alloc (.cells #[.int .i64 3, .int .i64 0, .int .i64 0, .string ⟨#[]⟩, .slice none 0 0, .slice none 0 0] 28)
    obtain ⟨vb, hvb⟩ : ∃ vb, w1.heap.size = vb := ⟨_, rfl⟩
    have hvW : W.heap.size < vb := by omega
    have hvb2 : ¬ vb = b := by omega
    have hsz : vb < (w1.alloc (.cells #[.int .i64 3, .int .i64 0, .int .i64 0, .string ⟨#[]⟩, .slice none 0 0, .slice none 0 0] 28)).heap.size := by rw [← hvb]; simp
    rw [hvb] at V3
    go_wp2_with fail
    (try rw [hvb])
    clear hd0
    generalize (w1.alloc (.cells #[.int .i64 3, .int .i64 0, .int .i64 0, .string ⟨#[]⟩, .slice none 0 0, .slice none 0 0] 28)) = W3 at *
    clear hbW hz2 Z2 R2 O2 hvb
    have S3 : ValS (vb + 1) 3 0 W3 (hdK 3) none 0 .nil := ValS.blank (Nat.zero_le _)
    refine (l14Dec_otb R3 (by omega)).mono ?_
    rintro r w4 ⟨m, x, q, rfl, hok, _, _, _, _, hq, R4, O34⟩
    have V4 := V3.otb O34 hvb2
    have Z4 := Z3.otb O34 hne
    have O4 := O3.trans O34
    have hb4 := R4.base_leU
    clear V3 Z3 R3 O3 O34 S3 hok
    obtain ⟨t0, f0⟩ := V4 0 _ rfl
    obtain ⟨t1, f1⟩ := V4 1 _ rfl
    obtain ⟨t2, f2⟩ := V4 2 _ rfl
    obtain ⟨t3, f3⟩ := V4 3 _ rfl
    obtain ⟨t4, f4⟩ := V4 4 _ rfl
    obtain ⟨t5, f5⟩ := V4 5 _ rfl
    have V5 : Row ((w4.setCell ⟨vb, 1, none⟩ (.int .i64 m)).setCell ⟨vb, 2, none⟩ (.int .i64 x)) vb (six (hdNum m x) none Vo.nil.len 0) := (V4.set (i := 1) (by decide) (.int .i64 m)).set (i := 2) (by rw [List.length_set]; decide) (.int .i64 x)
    have Z5 := (Z4.setOther (j := vb) (by omega) 1 (.int .i64 m)).setOther (j := vb) (by omega) 2 (.int .i64 x)
    have R5 := (R4.set (j := vb) (o := 1) (by omega) (by omega) (.int .i64 m)).set (j := vb) (o := 2) (by omega) (by omega) (.int .i64 x)
    have O5 := (O4.set (j := vb) (o := 1) (by omega) (.int .i64 m)).set (j := vb) (o := 2) (by omega) (.int .i64 x)
    have S5 : ValS (vb + 1) 3 0 ((w4.setCell ⟨vb, 1, none⟩ (.int .i64 m)).setCell ⟨vb, 2, none⟩ (.int .i64 x)) (hdNum m x) none 0 .nil := ValS.blank (Nat.zero_le _)
    have E : EndS w0 B b a len cap _ W vb 0 (hdNum m x) none 0 .nil _ := ⟨V5, Z5, S5, R5, O5⟩
    clear V4 Z4 R4 O4 V5 Z5 S5 R5 O5
    obtain ⟨V9, Z9, S9, R9, O9⟩ := E
    obtain ⟨r0, g0⟩ := Z9 0 _ rfl
    obtain ⟨r1, g1⟩ := Z9 1 _ rfl
    obtain ⟨r2, g2⟩ := Z9 2 _ rfl
    obtain ⟨r3, g3⟩ := Z9 3 _ rfl
    obtain ⟨r4, g4⟩ := Z9 4 _ rfl
    obtain ⟨r5, g5⟩ := Z9 5 _ rfl
    have s0 := (V9 0 _ rfl).1
    have s1 := (V9 1 _ rfl).1
    have s2 := (V9 2 _ rfl).1
    have s3 := (V9 3 _ rfl).1
    have s4 := (V9 4 _ rfl).1
    have s5 := (V9 5 _ rfl).1
    clear s0 s1 s2 s3 s4 s5
    have HP6 := Row.put6 (v0 := .int .i64 ((hdNum m x)).k) (v1 := .int .i64 ((hdNum m x)).m) (v2 := .int .i64 ((hdNum m x)).e) (v3 := .string ((hdNum m x)).t) (v4 := .slice none (Vo.nil).len 0) (v5 := .slice ((hdNum m x)).na ((hdNum m x)).ns.length ((hdNum m x)).nc) Z9
    have HO6 := Otr.put6 b (j := W.heap.size) (o := 0) ((w4.setCell ⟨vb, 1, none⟩ (.int .i64 m)).setCell ⟨vb, 2, none⟩ (.int .i64 x)) (.int .i64 ((hdNum m x)).k) (.int .i64 ((hdNum m x)).m) (.int .i64 ((hdNum m x)).e) (.string ((hdNum m x)).t) (.slice none (Vo.nil).len 0) (.slice ((hdNum m x)).na ((hdNum m x)).ns.length ((hdNum m x)).nc)
    have hb9 := R9.base_leU
    have S10 := S9.otr HO6 (by omega) (fun g hg => by cases hg; omega)
    have R10 := R9.uptoU (put6_below (B := W.heap.size) (nb := W.heap.size) (o := 0) (Below.refl _ ((w4.setCell ⟨vb, 1, none⟩ (.int .i64 m)).setCell ⟨vb, 2, none⟩ (.int .i64 x))) (Nat.le_refl _) (.int .i64 ((hdNum m x)).k) (.int .i64 ((hdNum m x)).m) (.int .i64 ((hdNum m x)).e) (.string ((hdNum m x)).t) (.slice none (Vo.nil).len 0) (.slice ((hdNum m x)).na ((hdNum m x)).ns.length ((hdNum m x)).nc)) hlt (by omega)
    have O10 := O9.upto (put6_below (B := W.heap.size) (nb := W.heap.size) (o := 0) (Below.refl _ ((w4.setCell ⟨vb, 1, none⟩ (.int .i64 m)).setCell ⟨vb, 2, none⟩ (.int .i64 x))) (Nat.le_refl _) (.int .i64 ((hdNum m x)).k) (.int .i64 ((hdNum m x)).m) (.int .i64 ((hdNum m x)).e) (.string ((hdNum m x)).t) (.slice none (Vo.nil).len 0) (.slice ((hdNum m x)).na ((hdNum m x)).ns.length ((hdNum m x)).nc))
    have HS10 : Hid (ValS W.heap.size 3 (szD (d + 1)) (put6 ((w4.setCell ⟨vb, 1, none⟩ (.int .i64 m)).setCell ⟨vb, 2, none⟩ (.int .i64 x)) W.heap.size 0 (.int .i64 ((hdNum m x)).k) (.int .i64 ((hdNum m x)).m) (.int .i64 ((hdNum m x)).e) (.string ((hdNum m x)).t) (.slice none (Vo.nil).len 0) (.slice ((hdNum m x)).na ((hdNum m x)).ns.length ((hdNum m x)).nc)) ((hdNum m x)) none 0 .nil ∧ Rd w0 B b a len cap _ (put6 ((w4.setCell ⟨vb, 1, none⟩ (.int .i64 m)).setCell ⟨vb, 2, none⟩ (.int .i64 x)) W.heap.size 0 (.int .i64 ((hdNum m x)).k) (.int .i64 ((hdNum m x)).m) (.int .i64 ((hdNum m x)).e) (.string ((hdNum m x)).t) (.slice none (Vo.nil).len 0) (.slice ((hdNum m x)).na ((hdNum m x)).ns.length ((hdNum m x)).nc)) ∧ Otb b W (put6 ((w4.setCell ⟨vb, 1, none⟩ (.int .i64 m)).setCell ⟨vb, 2, none⟩ (.int .i64 x)) W.heap.size 0 (.int .i64 ((hdNum m x)).k) (.int .i64 ((hdNum m x)).m) (.int .i64 ((hdNum m x)).e) (.string ((hdNum m x)).t) (.slice none (Vo.nil).len 0) (.slice ((hdNum m x)).na ((hdNum m x)).ns.length ((hdNum m x)).nc))) := ⟨S10.mono (by omega) (Nat.le_refl _) (Nat.zero_le _), R10, O10⟩
    clear V9 Z9 S9 R9 O9 HO6 S10 R10 O10
    go_wp2_with fail
    show bodyPost Try.prog Try.f46 _ Exit.ret _ (put6 ((w4.setCell ⟨vb, 1, none⟩ (.int .i64 m)).setCell ⟨vb, 2, none⟩ (.int .i64 x)) W.heap.size 0 (.int .i64 ((hdNum m x)).k) (.int .i64 ((hdNum m x)).m) (.int .i64 ((hdNum m x)).e) (.string ((hdNum m x)).t) (.slice none (Vo.nil).len 0) (.slice ((hdNum m x)).na ((hdNum m x)).ns.length ((hdNum m x)).nc))
    generalize put6 ((w4.setCell ⟨vb, 1, none⟩ (.int .i64 m)).setCell ⟨vb, 2, none⟩ (.int .i64 x)) W.heap.size 0 (.int .i64 ((hdNum m x)).k) (.int .i64 ((hdNum m x)).m) (.int .i64 ((hdNum m x)).e) (.string ((hdNum m x)).t) (.slice none (Vo.nil).len 0) (.slice ((hdNum m x)).na ((hdNum m x)).ns.length ((hdNum m x)).nc) = W6 at *
    have y0 := (HP6 0 _ rfl).1
    have y1 := (HP6 1 _ rfl).1
    have y2 := (HP6 2 _ rfl).1
    have y3 := (HP6 3 _ rfl).1
    have y4 := (HP6 4 _ rfl).1
    have y5 := (HP6 5 _ rfl).1
    obtain ⟨z1, z2, z3⟩ := HS10.out
    refine bodyPost_ret (v := valV ((hdNum m x)) none (Vo.nil).len 0) (by simp [results, Try.results46, go_sem, y0, y1, y2, y3, y4, y5]) rfl ⟨_, _, _, _, _, rfl, z1, (by show _ ≤ p + pkD (d + 1); have := HP.out; omega), z2, z3⟩
  · skip
    have hbW : Below w1.heap.size w1 (w1.alloc (.cells #[.int .i64 4, .int .i64 0, .int .i64 0, .string ⟨#[]⟩, .slice none 0 0, .slice none 0 0] 28)) := (Below.refl _ _).alloc (Nat.le_refl _) _
    have V3 : Row (w1.alloc (.cells #[.int .i64 4, .int .i64 0, .int .i64 0, .string ⟨#[]⟩, .slice none 0 0, .slice none 0 0] 28)) w1.heap.size (six (hdK 4) none Vo.nil.len 0) := Row.new w1 _ _
    have Z3 := Z2.below hbW hz2
    have R3 := R2.below hbW
    have O3 := O2.alloc (.cells #[.int .i64 4, .int .i64 0, .int .i64 0, .string ⟨#[]⟩, .slice none 0 0, .slice none 0 0] 28)
    obtain ⟨vb, hvb⟩ : ∃ vb, w1.heap.size = vb := ⟨_, rfl⟩
    have hvW : W.heap.size < vb := by omega
    have hvb2 : ¬ vb = b := by omega
    have hsz : vb < (w1.alloc (.cells #[.int .i64 4, .int .i64 0, .int .i64 0, .string ⟨#[]⟩, .slice none 0 0, .slice none 0 0] 28)).heap.size := by rw [← hvb]; simp
    rw [hvb] at V3
    go_wp2_with fail
    (try rw [hvb])
    clear hd0
    generalize (w1.alloc (.cells #[.int .i64 4, .int .i64 0, .int .i64 0, .string ⟨#[]⟩, .slice none 0 0, .slice none 0 0] 28)) = W3 at *
    clear hbW hz2 Z2 R2 O2 hvb
    have S3 : ValS (vb + 1) 3 0 W3 (hdK 4) none 0 .nil := ValS.blank (Nat.zero_le _)
    refine (l14Bytes_otb R3 (by omega)).mono ?_
    rintro r w4 ⟨s, q, rfl, hs, hq, R4, O34⟩
    have V4 := V3.otb O34 hvb2
    have Z4 := Z3.otb O34 hne
    have O4 := O3.trans O34
    have hb4 := R4.base_leU
    clear V3 Z3 R3 O3 O34 S3
    obtain ⟨t0, f0⟩ := V4 0 _ rfl
    obtain ⟨t1, f1⟩ := V4 1 _ rfl
    obtain ⟨t2, f2⟩ := V4 2 _ rfl
    obtain ⟨t3, f3⟩ := V4 3 _ rfl
    obtain ⟨t4, f4⟩ := V4 4 _ rfl
    obtain ⟨t5, f5⟩ := V4 5 _ rfl
    have V5 : Row (w4.setCell ⟨vb, 3, none⟩ (.string s)) vb (six (hdTxt s) none Vo.nil.len 0) := V4.set (i := 3) (by decide) (.string s)
    have Z5 := Z4.setOther (j := vb) (by omega) 3 (.string s)
    have R5 := R4.set (j := vb) (o := 3) (by omega) (by omega) (.string s)
    have O5 := O4.set (j := vb) (o := 3) (by omega) (.string s)
    have S5 : ValS (vb + 1) 3 0 (w4.setCell ⟨vb, 3, none⟩ (.string s)) (hdTxt s) none 0 .nil := ValS.blank hs
    have E : EndS w0 B b a len cap _ W vb 0 (hdTxt s) none 0 .nil _ := ⟨V5, Z5, S5, R5, O5⟩
    clear V4 Z4 R4 O4 V5 Z5 S5 R5 O5
    obtain ⟨V9, Z9, S9, R9, O9⟩ := E
    obtain ⟨r0, g0⟩ := Z9 0 _ rfl
    obtain ⟨r1, g1⟩ := Z9 1 _ rfl
    obtain ⟨r2, g2⟩ := Z9 2 _ rfl
    obtain ⟨r3, g3⟩ := Z9 3 _ rfl
    obtain ⟨r4, g4⟩ := Z9 4 _ rfl
    obtain ⟨r5, g5⟩ := Z9 5 _ rfl
    have s0 := (V9 0 _ rfl).1
    have s1 := (V9 1 _ rfl).1
    have s2 := (V9 2 _ rfl).1
    have s3 := (V9 3 _ rfl).1
    have s4 := (V9 4 _ rfl).1
    have s5 := (V9 5 _ rfl).1
    clear s0 s1 s2 s3 s4 s5
    have HP6 := Row.put6 (v0 := .int .i64 ((hdTxt s)).k) (v1 := .int .i64 ((hdTxt s)).m) (v2 := .int .i64 ((hdTxt s)).e) (v3 := .string ((hdTxt s)).t) (v4 := .slice none (Vo.nil).len 0) (v5 := .slice ((hdTxt s)).na ((hdTxt s)).ns.length ((hdTxt s)).nc) Z9
    have HO6 := Otr.put6 b (j := W.heap.size) (o := 0) (w4.setCell ⟨vb, 3, none⟩ (.string s)) (.int .i64 ((hdTxt s)).k) (.int .i64 ((hdTxt s)).m) (.int .i64 ((hdTxt s)).e) (.string ((hdTxt s)).t) (.slice none (Vo.nil).len 0) (.slice ((hdTxt s)).na ((hdTxt s)).ns.length ((hdTxt s)).nc)
    have hb9 := R9.base_leU
    have S10 := S9.otr HO6 (by omega) (fun g hg => by cases hg; omega)
    have R10 := R9.uptoU (put6_below (B := W.heap.size) (nb := W.heap.size) (o := 0) (Below.refl _ (w4.setCell ⟨vb, 3, none⟩ (.string s))) (Nat.le_refl _) (.int .i64 ((hdTxt s)).k) (.int .i64 ((hdTxt s)).m) (.int .i64 ((hdTxt s)).e) (.string ((hdTxt s)).t) (.slice none (Vo.nil).len 0) (.slice ((hdTxt s)).na ((hdTxt s)).ns.length ((hdTxt s)).nc)) hlt (by omega)
    have O10 := O9.upto (put6_below (B := W.heap.size) (nb := W.heap.size) (o := 0) (Below.refl _ (w4.setCell ⟨vb, 3, none⟩ (.string s))) (Nat.le_refl _) (.int .i64 ((hdTxt s)).k) (.int .i64 ((hdTxt s)).m) (.int .i64 ((hdTxt s)).e) (.string ((hdTxt s)).t) (.slice none (Vo.nil).len 0) (.slice ((hdTxt s)).na ((hdTxt s)).ns.length ((hdTxt s)).nc))
    have HS10 : Hid (ValS W.heap.size 3 (szD (d + 1)) (put6 (w4.setCell ⟨vb, 3, none⟩ (.string s)) W.heap.size 0 (.int .i64 ((hdTxt s)).k) (.int .i64 ((hdTxt s)).m) (.int .i64 ((hdTxt s)).e) (.string ((hdTxt s)).t) (.slice none (Vo.nil).len 0) (.slice ((hdTxt s)).na ((hdTxt s)).ns.length ((hdTxt s)).nc)) ((hdTxt s)) none 0 .nil ∧ Rd w0 B b a len cap _ (put6 (w4.setCell ⟨vb, 3, none⟩ (.string s)) W.heap.size 0 (.int .i64 ((hdTxt s)).k) (.int .i64 ((hdTxt s)).m) (.int .i64 ((hdTxt s)).e) (.string ((hdTxt s)).t) (.slice none (Vo.nil).len 0) (.slice ((hdTxt s)).na ((hdTxt s)).ns.length ((hdTxt s)).nc)) ∧ Otb b W (put6 (w4.setCell ⟨vb, 3, none⟩ (.string s)) W.heap.size 0 (.int .i64 ((hdTxt s)).k) (.int .i64 ((hdTxt s)).m) (.int .i64 ((hdTxt s)).e) (.string ((hdTxt s)).t) (.slice none (Vo.nil).len 0) (.slice ((hdTxt s)).na ((hdTxt s)).ns.length ((hdTxt s)).nc))) := ⟨S10.mono (by omega) (Nat.le_refl _) (Nat.zero_le _), R10, O10⟩
    clear V9 Z9 S9 R9 O9 HO6 S10 R10 O10
    go_wp2_with fail
    show bodyPost Try.prog Try.f46 _ Exit.ret _ (put6 (w4.setCell ⟨vb, 3, none⟩ (.string s)) W.heap.size 0 (.int .i64 ((hdTxt s)).k) (.int .i64 ((hdTxt s)).m) (.int .i64 ((hdTxt s)).e) (.string ((hdTxt s)).t) (.slice none (Vo.nil).len 0) (.slice ((hdTxt s)).na ((hdTxt s)).ns.length ((hdTxt s)).nc))
    generalize put6 (w4.setCell ⟨vb, 3, none⟩ (.string s)) W.heap.size 0 (.int .i64 ((hdTxt s)).k) (.int .i64 ((hdTxt s)).m) (.int .i64 ((hdTxt s)).e) (.string ((hdTxt s)).t) (.slice none (Vo.nil).len 0) (.slice ((hdTxt s)).na ((hdTxt s)).ns.length ((hdTxt s)).nc) = W6 at *
    have y0 := (HP6 0 _ rfl).1
    have y1 := (HP6 1 _ rfl).1
    have y2 := (HP6 2 _ rfl).1
    have y3 := (HP6 3 _ rfl).1
    have y4 := (HP6 4 _ rfl).1
    have y5 := (HP6 5 _ rfl).1
    obtain ⟨z1, z2, z3⟩ := HS10.out
    refine bodyPost_ret (v := valV ((hdTxt s)) none (Vo.nil).len 0) (by simp [results, Try.results46, go_sem, y0, y1, y2, y3, y4, y5]) rfl ⟨_, _, _, _, _, rfl, z1, (by show _ ≤ p + pkD (d + 1); have := HP.out; omega), z2, z3⟩
  · skip
    have hbW : Below w1.heap.size w1 (w1.alloc (.cells #[.int .i64 5, .int .i64 0, .int .i64 0, .string ⟨#[]⟩, .slice none 0 0, .slice none 0 0] 28)) := (Below.refl _ _).alloc (Nat.le_refl _) _
    have V3 : Row (w1.alloc (.cells #[.int .i64 5, .int .i64 0, .int .i64 0, .string ⟨#[]⟩, .slice none 0 0, .slice none 0 0] 28)) w1.heap.size (six (hdK 5) none Vo.nil.len 0) := Row.new w1 _ _
    have Z3 := Z2.below hbW hz2
    have R3 := R2.below hbW
    have O3 := O2.alloc (.cells #[.int .i64 5, .int .i64 0, .int .i64 0, .string ⟨#[]⟩, .slice none 0 0, .slice none 0 0] 28)
    obtain ⟨vb, hvb⟩ : ∃ vb, w1.heap.size = vb := ⟨_, rfl⟩
    have hvW : W.heap.size < vb := by omega
    have hvb2 : ¬ vb = b := by omega
    have hsz : vb < (w1.alloc (.cells #[.int .i64 5, .int .i64 0, .int .i64 0, .string ⟨#[]⟩, .slice none 0 0, .slice none 0 0] 28)).heap.size := by rw [← hvb]; simp
    rw [hvb] at V3
    go_wp2_with fail
    (try rw [hvb])
    clear hd0
    generalize (w1.alloc (.cells #[.int .i64 5, .int .i64 0, .int .i64 0, .string ⟨#[]⟩, .slice none 0 0, .slice none 0 0] 28)) = W3 at *
    clear hbW hz2 Z2 R2 O2 hvb
    have S3 : ValS (vb + 1) 3 0 W3 (hdK 5) none 0 .nil := ValS.blank (Nat.zero_le _)
    refine (pick_any 4 R3 (by omega) (by omega) (by omega)).mono ?_
    rintro r w4 ⟨⟨n, rfl, n0, n1⟩, s4⟩
    have R4 := R3.step s4
    have V4 : Row w4 vb (six (hdK 5) none Vo.nil.len 0) := Row.otb ((Otb.refl b W3).stepped s4) hvb2 V3
    have Z4 : Row w4 W.heap.size zero6 := Row.otb ((Otb.refl b W3).stepped s4) hne Z3
    have O4 := O3.stepped s4
    have hz4 : vb < w4.heap.size := by rw [s4.other.2.2]; exact hsz
    clear V3 Z3 R3 O3 S3 s4 hsz
    obtain ⟨n, rfl⟩ := Int.eq_ofNat_of_zero_le n0
    have HH : Hid (DrawC w0 B b a len cap d) := H
    clear H
    go_wp2_with fail
    go_loopw [7] (fun i wr => ∃ (n : Nat) (F : Vo) (av : Option Addr) (c : Nat) (q : Int), i = .int .i64 n ∧ F.len + n ≤ 3 ∧ q + ((n * (pkD d + 4) : Nat) : Int) ≤ p + 2 + 3 * (pkD d + 4) ∧ (Row wr vb (six (hdK 5) av F.len c) ∧ Row wr W.heap.size zero6 ∧ ValS (vb + 1) F.len (F.len * (szD d + 1)) wr (hdK 5) av c F ∧ Rd w0 B b a len cap q wr ∧ Otb b W wr ∧ vb < wr.heap.size)) (fun i _ => (intOf i).toNat)
    case atStart =>
      refine ⟨n, .nil, none, 0, _, rfl, ?_, ?_, V4, Z4, ValS.blank (Nat.zero_le _), R4, O4, hz4⟩
      · show 0 + n ≤ 3; omega
      · have : n * (pkD d + 4) ≤ 3 * (pkD d + 4) := Nat.mul_le_mul_right _ (by omega)
        omega
    case round =>
      clear V4 Z4 R4 O4 hz4 n0 n1
      obtain ⟨n, F, av, c, q, rfl, hFn, hqn, hV, hZ, hS, hR, hO, hz⟩ := hrel
      have HF : Hid (F.len + n ≤ 3 ∧ q + ((n * (pkD d + 4) : Nat) : Int) ≤ p + 2 + 3 * (pkD d + 4)) := ⟨hFn, hqn⟩
      clear hFn hqn
      by_cases hn : 0 < n
      · obtain ⟨m, rfl⟩ : ∃ m, n = m + 1 := ⟨n - 1, by omega⟩
        have hn2 : (0 : Int) < (((m + 1 : Nat)) : Int) := by omega
        have h4 := hV 4 _ rfl
        have hbz := hR.lt
        have hmul : (m + 1) * (pkD d + 4) = m * (pkD d + 4) + (pkD d + 4) := Nat.succ_mul _ _
        have hq2 : q + pkD d ≤ 80000 := by have := HF.out.2; rw [hmul] at this; omega
        clear hmul
        have hF3 : F.len ≤ 3 := by have := HF.out.1; omega
        have hb2 := hR.base_leU
        go_wp2_with fail
        have hS' := hS
        refine u14 (n := F.len) (F := F) (B0 := vb + 1) HH.out hR hq2 (by omega) HDD.out hvb2 (by omega) (by omega) (by omega) h4.1 h4.2 hS.2.1 (by omega) (fun _ d _ _ _ h => by cases d <;> exact h) ?_
        intro ws v' h1 G ag cg p1 v36 v37 v38 v39 v40 v41 v42 v44 hOt hR1 hp1' hG hown hob
        obtain ⟨g, c', rfl, hg1, hg2⟩ := hown.form (by omega)
        have hob2 : blkOf (some (⟨g, 0, none⟩ : Addr)) = blkOf av ∨ ∃ g', blkOf (some (⟨g, 0, none⟩ : Addr)) = some g' ∧ wr.heap.size ≤ g' ∧ (oneV h1 ag cg G).Blk (fun x => x < g') := hob
        have hS2 := ValS.more (vb := vb) (o := 4) (u := .slice (some ⟨g, 0, none⟩) (F.len + 1) c') hS (by omega) (by omega) (by omega) ⟨rfl, rfl, rfl⟩ (by decide) hOt hG hown hob2
        have hne4 : some vb ≠ blkOf av := fun e => by have := (hS.2.1.lt vb (by rw [ownBlock_blkOf]; exact e.symm)).1; omega
        have hne5 : some W.heap.size ≠ blkOf av := fun e => by have := (hS.2.1.lt W.heap.size (by rw [ownBlock_blkOf]; exact e.symm)).1; omega
        have hV2 := (hOt.row hvb2 hne4 hV).set (i := 4) (by show 4 < 6; omega) (.slice (some ⟨g, 0, none⟩) (F.len + 1) c')
        have hZ2 := (hOt.row hne hne5 hZ).setOther (j := vb) (by omega) 4 (.slice (some ⟨g, 0, none⟩) (F.len + 1) c')
        have hR2 := hR1.set (j := vb) (o := 4) (by omega) (by omega) (.slice (some ⟨g, 0, none⟩) (F.len + 1) c')
        have hO2 : Otb b W (ws.setCell ⟨vb, 4, none⟩ (.slice (some ⟨g, 0, none⟩) (F.len + 1) c')) := Otb.set ⟨Nat.le_trans hO.1 hOt.1, fun x h1 h2 => (hOt.2 x (Nat.lt_of_lt_of_le h1 hO.1) h2 (fun e => by have := (hS.2.1.lt x (by rw [ownBlock_blkOf]; exact e.symm)).1; omega)).trans (hO.2 x h1 h2)⟩ (by omega) _
        have hz2 : vb < (ws.setCell ⟨vb, 4, none⟩ (.slice (some ⟨g, 0, none⟩) (F.len + 1) c')).heap.size := by have := hOt.1; simp [World.setCell]; omega
        have HN : Hid (Row (ws.setCell ⟨vb, 4, none⟩ (.slice (some ⟨g, 0, none⟩) (F.len + 1) c')) vb (six (hdK 5) (some ⟨g, 0, none⟩) (F.len + 1) c') ∧ Row (ws.setCell ⟨vb, 4, none⟩ (.slice (some ⟨g, 0, none⟩) (F.len + 1) c')) W.heap.size zero6 ∧ ValS (vb + 1) (F.len + 1) (F.len * (szD d + 1) + szD d + 1) (ws.setCell ⟨vb, 4, none⟩ (.slice (some ⟨g, 0, none⟩) (F.len + 1) c')) (hdK 5) (some ⟨g, 0, none⟩) c' (F.app (oneV h1 ag cg G)) ∧ Rd w0 B b a len cap p1 (ws.setCell ⟨vb, 4, none⟩ (.slice (some ⟨g, 0, none⟩) (F.len + 1) c')) ∧ Otb b W (ws.setCell ⟨vb, 4, none⟩ (.slice (some ⟨g, 0, none⟩) (F.len + 1) c')) ∧ vb < (ws.setCell ⟨vb, 4, none⟩ (.slice (some ⟨g, 0, none⟩) (F.len + 1) c')).heap.size) := ⟨hV2, hZ2, hS2, hR2, hO2, hz2⟩
        clear hV hZ hS hS' hR hO hz h4 hOt hR1 hG hown hob hob2 hS2 hV2 hZ2 hR2 hO2 hz2 hne4 hne5
        generalize ws.setCell ⟨vb, 4, none⟩ (.slice (some ⟨g, 0, none⟩) (F.len + 1) c') = wn at *
        have hm3 : m ≤ 3 := by have hF1 := HF.out.1; omega
        go_wp2_with fail
        refine ⟨?_, ?_⟩
        · skip
          obtain ⟨n1, n2, n3, n4, n5, n6⟩ := HN.out
          have el : (F.app (oneV h1 ag cg G)).len = F.len + 1 := Vo.app_len _ _
          obtain ⟨e1, e2⟩ := HF.out
          have hmul : (m + 1) * (pkD d + 4) = m * (pkD d + 4) + (pkD d + 4) := Nat.succ_mul _ _
          rw [hmul] at e2
          refine ⟨m, F.app (oneV h1 ag cg G), some ⟨g, 0, none⟩, c', p1, ?_, by omega, by omega, by rw [el]; exact n1, n2, ?_, n4, n5, n6⟩
          · rfl
          · rw [el, Nat.succ_mul]; exact n3
        · simp [intOf]
      · have hn0 : n = 0 := by omega
        have hn2 : ¬ (0 : Int) < (n : Int) := by omega
        obtain ⟨e1, e2⟩ := HF.out
        have hF3 : F.len ≤ 3 := by omega
        have hM : F.len * (szD d + 1) ≤ 3 * (szD d + 1) := Nat.mul_le_mul_right _ hF3
        have E : EndS w0 B b a len cap q W vb (3 * (szD d + 1)) (hdK 5) av c F wr := ⟨hV, hZ, hS.mono (Nat.le_refl _) hF3 hM, hR, hO⟩
        have hqe : q ≤ p + pkD (d + 1) := by have := HP.out; subst hn0; omega
        clear hV hZ hS hR hO e1 e2 hM HF HH hn0 hn
        obtain ⟨V9, Z9, S9, R9, O9⟩ := E
        obtain ⟨r0, g0⟩ := Z9 0 _ rfl
        obtain ⟨r1, g1⟩ := Z9 1 _ rfl
        obtain ⟨r2, g2⟩ := Z9 2 _ rfl
        obtain ⟨r3, g3⟩ := Z9 3 _ rfl
        obtain ⟨r4, g4⟩ := Z9 4 _ rfl
        obtain ⟨r5, g5⟩ := Z9 5 _ rfl
        have s0 := (V9 0 _ rfl).1
        have s1 := (V9 1 _ rfl).1
        have s2 := (V9 2 _ rfl).1
        have s3 := (V9 3 _ rfl).1
        have s4 := (V9 4 _ rfl).1
        have s5 := (V9 5 _ rfl).1
        have HP6 := Row.put6 (v0 := .int .i64 (hdK 5).k) (v1 := .int .i64 (hdK 5).m) (v2 := .int .i64 (hdK 5).e) (v3 := .string (hdK 5).t) (v4 := .slice av (F).len c) (v5 := .slice (hdK 5).na (hdK 5).ns.length (hdK 5).nc) Z9
        have HO6 := Otr.put6 b (j := W.heap.size) (o := 0) wr (.int .i64 (hdK 5).k) (.int .i64 (hdK 5).m) (.int .i64 (hdK 5).e) (.string (hdK 5).t) (.slice av (F).len c) (.slice (hdK 5).na (hdK 5).ns.length (hdK 5).nc)
        have hb9 := R9.base_leU
        have S10 := S9.otr HO6 (by omega) (fun g hg => by cases hg; omega)
        have R10 := R9.uptoU (put6_below (B := W.heap.size) (nb := W.heap.size) (o := 0) (Below.refl _ wr) (Nat.le_refl _) (.int .i64 (hdK 5).k) (.int .i64 (hdK 5).m) (.int .i64 (hdK 5).e) (.string (hdK 5).t) (.slice av (F).len c) (.slice (hdK 5).na (hdK 5).ns.length (hdK 5).nc)) hlt (by omega)
        have O10 := O9.upto (put6_below (B := W.heap.size) (nb := W.heap.size) (o := 0) (Below.refl _ wr) (Nat.le_refl _) (.int .i64 (hdK 5).k) (.int .i64 (hdK 5).m) (.int .i64 (hdK 5).e) (.string (hdK 5).t) (.slice av (F).len c) (.slice (hdK 5).na (hdK 5).ns.length (hdK 5).nc))
        have HS10 : Hid (ValS W.heap.size 3 (szD (d + 1)) (put6 wr W.heap.size 0 (.int .i64 (hdK 5).k) (.int .i64 (hdK 5).m) (.int .i64 (hdK 5).e) (.string (hdK 5).t) (.slice av (F).len c) (.slice (hdK 5).na (hdK 5).ns.length (hdK 5).nc)) (hdK 5) av c F ∧ Rd w0 B b a len cap _ (put6 wr W.heap.size 0 (.int .i64 (hdK 5).k) (.int .i64 (hdK 5).m) (.int .i64 (hdK 5).e) (.string (hdK 5).t) (.slice av (F).len c) (.slice (hdK 5).na (hdK 5).ns.length (hdK 5).nc)) ∧ Otb b W (put6 wr W.heap.size 0 (.int .i64 (hdK 5).k) (.int .i64 (hdK 5).m) (.int .i64 (hdK 5).e) (.string (hdK 5).t) (.slice av (F).len c) (.slice (hdK 5).na (hdK 5).ns.length (hdK 5).nc))) := ⟨S10.mono (by omega) (Nat.le_refl _) (Nat.le_refl _), R10, O10⟩
        clear V9 Z9 S9 R9 O9 HO6 S10 R10 O10
        go_wp2_with fail
        show bodyPost Try.prog Try.f46 _ Exit.ret _ (put6 wr W.heap.size 0 (.int .i64 (hdK 5).k) (.int .i64 (hdK 5).m) (.int .i64 (hdK 5).e) (.string (hdK 5).t) (.slice av (F).len c) (.slice (hdK 5).na (hdK 5).ns.length (hdK 5).nc))
        generalize put6 wr W.heap.size 0 (.int .i64 (hdK 5).k) (.int .i64 (hdK 5).m) (.int .i64 (hdK 5).e) (.string (hdK 5).t) (.slice av (F).len c) (.slice (hdK 5).na (hdK 5).ns.length (hdK 5).nc) = W6 at *
        have y0 := (HP6 0 _ rfl).1
        have y1 := (HP6 1 _ rfl).1
        have y2 := (HP6 2 _ rfl).1
        have y3 := (HP6 3 _ rfl).1
        have y4 := (HP6 4 _ rfl).1
        have y5 := (HP6 5 _ rfl).1
        obtain ⟨z1, z2, z3⟩ := HS10.out
        refine bodyPost_ret (v := valV (hdK 5) av (F).len c) (by simp [results, Try.results46, go_sem, y0, y1, y2, y3, y4, y5]) rfl ⟨hdK 5, F, av, c, rfl, z1, _, hqe, z2, z3⟩
  · skip
    have hbW : Below w1.heap.size w1 (w1.alloc (.cells #[.int .i64 6, .int .i64 0, .int .i64 0, .string ⟨#[]⟩, .slice none 0 0, .slice none 0 0] 28)) := (Below.refl _ _).alloc (Nat.le_refl _) _
    have V3 : Row (w1.alloc (.cells #[.int .i64 6, .int .i64 0, .int .i64 0, .string ⟨#[]⟩, .slice none 0 0, .slice none 0 0] 28)) w1.heap.size (six (hdK 6) none Vo.nil.len 0) := Row.new w1 _ _
    have Z3 := Z2.below hbW hz2
    have R3 := R2.below hbW
    have O3 := O2.alloc (.cells #[.int .i64 6, .int .i64 0, .int .i64 0, .string ⟨#[]⟩, .slice none 0 0, .slice none 0 0] 28)
    obtain ⟨vb, hvb⟩ : ∃ vb, w1.heap.size = vb := ⟨_, rfl⟩
    have hvW : W.heap.size < vb := by omega
    have hvb2 : ¬ vb = b := by omega
    have hsz : vb < (w1.alloc (.cells #[.int .i64 6, .int .i64 0, .int .i64 0, .string ⟨#[]⟩, .slice none 0 0, .slice none 0 0] 28)).heap.size := by rw [← hvb]; simp
    rw [hvb] at V3
    go_wp2_with fail
    (try rw [hvb])
    clear hd0
    generalize (w1.alloc (.cells #[.int .i64 6, .int .i64 0, .int .i64 0, .string ⟨#[]⟩, .slice none 0 0, .slice none 0 0] 28)) = W3 at *
    clear hbW hz2 Z2 R2 O2 hvb
    have S3 : ValS (vb + 1) 3 0 W3 (hdK 6) none 0 .nil := ValS.blank (Nat.zero_le _)
    refine (pick_any 4 R3 (by omega) (by omega) (by omega)).mono ?_
    rintro r w4 ⟨⟨n, rfl, n0, n1⟩, s4⟩
    have R4 := R3.step s4
    have V4 : Row w4 vb (six (hdK 6) none Vo.nil.len 0) := Row.otb ((Otb.refl b W3).stepped s4) hvb2 V3
    have Z4 : Row w4 W.heap.size zero6 := Row.otb ((Otb.refl b W3).stepped s4) hne Z3
    have O4 := O3.stepped s4
    have hz4 : vb < w4.heap.size := by rw [s4.other.2.2]; exact hsz
    clear V3 Z3 R3 O3 S3 s4 hsz
    obtain ⟨n, rfl⟩ := Int.eq_ofNat_of_zero_le n0
    have HH : Hid (DrawC w0 B b a len cap d) := H
    clear H
    go_wp2_with fail
    go_loopw [8] (fun i wr => ∃ (n L : Nat) (h : Hd) (F : Vo) (av : Option Addr) (c : Nat) (q : Int), i = .int .i64 n ∧ L + n ≤ 3 ∧ q + ((n * (pkD d + 4) : Nat) : Int) ≤ p + 2 + 3 * (pkD d + 4) ∧ (Row wr vb (six h av F.len c) ∧ Row wr W.heap.size zero6 ∧ ValS (vb + 1) L (L * (szD d + 1)) wr h av c F ∧ F.len = h.ns.length ∧ Rd w0 B b a len cap q wr ∧ Otb b W wr ∧ vb < wr.heap.size)) (fun i _ => (intOf i).toNat)
    case atStart =>
      refine ⟨n, 0, hdK 6, .nil, none, 0, _, rfl, by omega, ?_, V4, Z4, ValS.blank (Nat.zero_le _), rfl, R4, O4, hz4⟩
      have : n * (pkD d + 4) ≤ 3 * (pkD d + 4) := Nat.mul_le_mul_right _ (by omega)
      omega
    case round =>
      clear V4 Z4 R4 O4 hz4 n0 n1
      obtain ⟨n, L, h0, F, av, c, q, rfl, hFn, hqn, hV, hZ, hS, hl, hR, hO, hz⟩ := hrel
      have HF : Hid (L + n ≤ 3 ∧ q + ((n * (pkD d + 4) : Nat) : Int) ≤ p + 2 + 3 * (pkD d + 4)) := ⟨hFn, hqn⟩
      have HL : Hid (F.len = h0.ns.length) := hl
      clear hFn hqn hl
      by_cases hn : 0 < n
      · obtain ⟨m, rfl⟩ : ∃ m, n = m + 1 := ⟨n - 1, by omega⟩
        have hn2 : (0 : Int) < (((m + 1 : Nat)) : Int) := by omega
        have hbz := hR.lt
        have hmul : (m + 1) * (pkD d + 4) = m * (pkD d + 4) + (pkD d + 4) := Nat.succ_mul _ _
        have hq2 : q + 1 + pkD d ≤ 80000 := by have := HF.out.2; rw [hmul] at this; omega
        clear hmul
        have hL3 : L ≤ 3 := by have := HF.out.1; omega
        have hb2 := hR.base_leU
        go_wp2_with fail
        refine u19 (B0 := vb + 1) HH.out hR hq2 (by omega) HDD.out hvb2 (by omega) (by omega) hV hS HL.out (by omega) (fun _ d _ _ _ h => by cases d <;> exact h) ?_
        intro ws h' a' c' F' p1 v53 v54 v55 v56 v57 v58 v59 v60 v61 v62 v63 v64 hOt hR1 hp1' hS1 hl1
        have hP := Otr.put6 b (j := vb) (o := 0) ws (.int .i64 h'.k) (.int .i64 h'.m) (.int .i64 h'.e) (.string h'.t) (.slice a' F'.len c') (.slice h'.na h'.ns.length h'.nc)
        have hS2 := hS1.otr hP (by omega) (fun g hg => by cases hg; omega)
        have hV2 : Row (put6 ws vb 0 (.int .i64 h'.k) (.int .i64 h'.m) (.int .i64 h'.e) (.string h'.t) (.slice a' F'.len c') (.slice h'.na h'.ns.length h'.nc)) vb (six h' a' F'.len c') := Row.put6 (Row.otb hOt hvb2 hV)
        have hZ2 := hP.row hne (fun e => by cases e; omega) (Row.otb hOt hne hZ)
        have hR2 : Rd w0 B b a len cap p1 _ := hR1.uptoU (put6_below (B := vb) (nb := vb) (o := 0) (Below.refl _ ws) (Nat.le_refl _) (.int .i64 h'.k) (.int .i64 h'.m) (.int .i64 h'.e) (.string h'.t) (.slice a' F'.len c') (.slice h'.na h'.ns.length h'.nc)) (by omega) (by omega)
        have hO2 : Otb b W _ := (hO.trans hOt).upto (put6_below (B := W.heap.size) (nb := vb) (o := 0) (Below.refl _ ws) (by omega) (.int .i64 h'.k) (.int .i64 h'.m) (.int .i64 h'.e) (.string h'.t) (.slice a' F'.len c') (.slice h'.na h'.ns.length h'.nc))
        have hz2 := Nat.lt_of_lt_of_le hz (Nat.le_trans hOt.1 hP.1)
        generalize put6 ws vb 0 (.int .i64 h'.k) (.int .i64 h'.m) (.int .i64 h'.e) (.string h'.t) (.slice a' F'.len c') (.slice h'.na h'.ns.length h'.nc) = wn at *
        have HN : Hid (Row wn vb (six h' a' F'.len c') ∧ Row wn W.heap.size zero6 ∧ ValS (vb + 1) (L + 1) (L * (szD d + 1) + szD d + 1) wn h' a' c' F' ∧ F'.len = h'.ns.length ∧ Rd w0 B b a len cap p1 wn ∧ Otb b W wn ∧ vb < wn.heap.size) := ⟨hV2, hZ2, hS2, hl1, hR2, hO2, hz2⟩
        clear hV hZ hS hR hO hz hOt hR1 hS1 hP hS2 hV2 hZ2 hR2 hO2 hz2 hl1
        have hm3 : m ≤ 3 := by have hF1 := HF.out.1; omega
        go_wp2_with fail
        refine ⟨?_, ?_⟩
        · skip
          obtain ⟨n1, n2, n3, n4, n5, n6, n7⟩ := HN.out
          obtain ⟨e1, e2⟩ := HF.out
          have hmul : (m + 1) * (pkD d + 4) = m * (pkD d + 4) + (pkD d + 4) := Nat.succ_mul _ _
          rw [hmul] at e2
          refine ⟨m, L + 1, h', F', a', c', p1, ?_, by omega, by omega, n1, n2, ?_, n4, n5, n6, n7⟩
          · rfl
          · rw [Nat.succ_mul]; exact n3
        · simp [intOf]
      · have hn0 : n = 0 := by omega
        have hn2 : ¬ (0 : Int) < (n : Int) := by omega
        obtain ⟨e1, e2⟩ := HF.out
        have hF3 : L ≤ 3 := by omega
        have hM : L * (szD d + 1) ≤ 3 * (szD d + 1) := Nat.mul_le_mul_right _ hF3
        have E : EndS w0 B b a len cap q W vb (3 * (szD d + 1)) h0 av c F wr := ⟨hV, hZ, hS.mono (Nat.le_refl _) hF3 hM, hR, hO⟩
        have hqe : q ≤ p + pkD (d + 1) := by have := HP.out; subst hn0; omega
        clear hV hZ hS hR hO e1 e2 hM HF HH HL hn0 hn
        obtain ⟨V9, Z9, S9, R9, O9⟩ := E
        obtain ⟨r0, g0⟩ := Z9 0 _ rfl
        obtain ⟨r1, g1⟩ := Z9 1 _ rfl
        obtain ⟨r2, g2⟩ := Z9 2 _ rfl
        obtain ⟨r3, g3⟩ := Z9 3 _ rfl
        obtain ⟨r4, g4⟩ := Z9 4 _ rfl
        obtain ⟨r5, g5⟩ := Z9 5 _ rfl
        have s0 := (V9 0 _ rfl).1
        have s1 := (V9 1 _ rfl).1
        have s2 := (V9 2 _ rfl).1
        have s3 := (V9 3 _ rfl).1
        have s4 := (V9 4 _ rfl).1
        have s5 := (V9 5 _ rfl).1
        have HP6 := Row.put6 (v0 := .int .i64 (h0).k) (v1 := .int .i64 (h0).m) (v2 := .int .i64 (h0).e) (v3 := .string (h0).t) (v4 := .slice av (F).len c) (v5 := .slice (h0).na (h0).ns.length (h0).nc) Z9
        have HO6 := Otr.put6 b (j := W.heap.size) (o := 0) wr (.int .i64 (h0).k) (.int .i64 (h0).m) (.int .i64 (h0).e) (.string (h0).t) (.slice av (F).len c) (.slice (h0).na (h0).ns.length (h0).nc)
        have hb9 := R9.base_leU
        have S10 := S9.otr HO6 (by omega) (fun g hg => by cases hg; omega)
        have R10 := R9.uptoU (put6_below (B := W.heap.size) (nb := W.heap.size) (o := 0) (Below.refl _ wr) (Nat.le_refl _) (.int .i64 (h0).k) (.int .i64 (h0).m) (.int .i64 (h0).e) (.string (h0).t) (.slice av (F).len c) (.slice (h0).na (h0).ns.length (h0).nc)) hlt (by omega)
        have O10 := O9.upto (put6_below (B := W.heap.size) (nb := W.heap.size) (o := 0) (Below.refl _ wr) (Nat.le_refl _) (.int .i64 (h0).k) (.int .i64 (h0).m) (.int .i64 (h0).e) (.string (h0).t) (.slice av (F).len c) (.slice (h0).na (h0).ns.length (h0).nc))
        have HS10 : Hid (ValS W.heap.size 3 (szD (d + 1)) (put6 wr W.heap.size 0 (.int .i64 (h0).k) (.int .i64 (h0).m) (.int .i64 (h0).e) (.string (h0).t) (.slice av (F).len c) (.slice (h0).na (h0).ns.length (h0).nc)) (h0) av c F ∧ Rd w0 B b a len cap _ (put6 wr W.heap.size 0 (.int .i64 (h0).k) (.int .i64 (h0).m) (.int .i64 (h0).e) (.string (h0).t) (.slice av (F).len c) (.slice (h0).na (h0).ns.length (h0).nc)) ∧ Otb b W (put6 wr W.heap.size 0 (.int .i64 (h0).k) (.int .i64 (h0).m) (.int .i64 (h0).e) (.string (h0).t) (.slice av (F).len c) (.slice (h0).na (h0).ns.length (h0).nc))) := ⟨S10.mono (by omega) (Nat.le_refl _) (Nat.le_refl _), R10, O10⟩
        clear V9 Z9 S9 R9 O9 HO6 S10 R10 O10
        go_wp2_with fail
        show bodyPost Try.prog Try.f46 _ Exit.ret _ (put6 wr W.heap.size 0 (.int .i64 (h0).k) (.int .i64 (h0).m) (.int .i64 (h0).e) (.string (h0).t) (.slice av (F).len c) (.slice (h0).na (h0).ns.length (h0).nc))
        generalize put6 wr W.heap.size 0 (.int .i64 (h0).k) (.int .i64 (h0).m) (.int .i64 (h0).e) (.string (h0).t) (.slice av (F).len c) (.slice (h0).na (h0).ns.length (h0).nc) = W6 at *
        have y0 := (HP6 0 _ rfl).1
        have y1 := (HP6 1 _ rfl).1
        have y2 := (HP6 2 _ rfl).1
        have y3 := (HP6 3 _ rfl).1
        have y4 := (HP6 4 _ rfl).1
        have y5 := (HP6 5 _ rfl).1
        obtain ⟨z1, z2, z3⟩ := HS10.out
        refine bodyPost_ret (v := valV (h0) av (F).len c) (by simp [results, Try.results46, go_sem, y0, y1, y2, y3, y4, y5]) rfl ⟨h0, F, av, c, rfl, z1, _, hqe, z2, z3⟩
theorem l14Value_any {w0 : World} {B b : Nat} {a : Option Addr} {len cap : Nat} : ∀ d : Nat, d ≤ 900 → DrawC w0 B b a len cap d := by
  intro d
  induction d with
  | zero => exact fun _ => l14Value_zero
  | succ d ih => exact fun h => l14Value_next (by omega) (ih (by omega))
end Go.Proofs.Ytfgchdnpbbgmjaa
/- Drawn values: l14AnyValue, and the draws of one value. -/
namespace Go.Proofs.Ytfgchdnpbbgmjaa
open Go.RowKit
attribute [local go_sem] cell_alloc_is frozen_alloc_is
/-- any drawn value: it lies there, in new cells that are not frozen, and is small -/
def AnyS (B0 M : Nat) (w : World) (h : Hd) (a : Option Addr) (c : Nat) (F : Vo) : Prop :=
  ((oneV h a c F).Kin w ∧ (oneV h a c F).Cl w) ∧ (oneV h a c F).Blk (fun x => B0 ≤ x ∧ x < w.heap.size) ∧ (F.size ≤ M ∧ F.wt ≤ 60 * M ∧ fw h F) ∧ h.ns.length ≤ 4 ∧ h.t.size ≤ 7 ∧ ∀ s ∈ h.ns, s.size ≤ 10
theorem ValS.any {B0 L M : Nat} {w : World} {h : Hd} {a : Option Addr} {c : Nat} {F : Vo} (x : ValS B0 L M w h a c F) (hL : L ≤ 4) : AnyS B0 M w h a c F := by
  have h1 := x.one
  have h2 := x.oneCl
  have h3 := x.blk
  obtain ⟨⟨⟨l1, l2, l3, l4⟩, l5, l6, l7⟩, _⟩ := x
  exact ⟨⟨h1, h2⟩, h3, ⟨l2, by omega, l4⟩, by omega, l6, l7⟩
theorem AnyS.otr {B0 M b : Nat} {r : Option Nat} {W w' : World} {h : Hd} {a : Option Addr} {c : Nat} {F : Vo} (x : AnyS B0 M W h a c F) (k : Otr b r W w') (hb : b < B0) (hr : ∀ g, r = some g → g < B0) : AnyS B0 M w' h a c F := by
  obtain ⟨⟨h1, h2⟩, h3, h4⟩ := x
  have hB : (oneV h a c F).Blk (fun x => ¬ x = b ∧ some x ≠ r) := h3.mono fun x hx => ⟨by omega, fun e => by have := hr x e.symm; omega⟩
  exact ⟨⟨k.kin hB h1, k.cl hB h2⟩, h3.mono fun x hx => ⟨hx.1, Nat.lt_of_lt_of_le hx.2 k.1⟩, h4⟩
theorem AnyS.below {B0 M : Nat} {W w' : World} {h : Hd} {a : Option Addr} {c : Nat} {F : Vo} (x : AnyS B0 M W h a c F) (k : Below W.heap.size W w') : AnyS B0 M w' h a c F := by
  obtain ⟨⟨h1, h2⟩, h3, h4⟩ := x
  exact ⟨⟨Vo.kin_grow k h1, h2.below k⟩, h3.mono fun x hx => ⟨hx.1, Nat.lt_of_lt_of_le hx.2 k.size⟩, h4⟩
theorem AnyS.mono {B0 B1 M M' : Nat} {W : World} {h : Hd} {a : Option Addr} {c : Nat} {F : Vo} (x : AnyS B0 M W h a c F) (hB : B1 ≤ B0) (hM : M ≤ M') : AnyS B1 M' W h a c F := by
  obtain ⟨h1, h3, ⟨l1, l2, l3⟩, h4⟩ := x
  exact ⟨h1, h3.mono fun x hx => ⟨by omega, hx.2⟩, ⟨by omega, by omega, l3⟩, h4⟩
/-- another kind, number, text -/
theorem AnyS.head {B0 M : Nat} {w : World} {h : Hd} {a : Option Addr} {c : Nat} {F : Vo} (x : AnyS B0 M w h a c F) (k m e : Int) (t : ByteArray) (ht : t.size ≤ 7) (hk6 : k = h.k ∨ ¬ k = 6) : AnyS B0 M w ⟨k, m, e, t, h.na, h.nc, h.ns⟩ a c F := by
  obtain ⟨⟨⟨k1, k2, k3, k4⟩, h2⟩, h3, ⟨h4a, h4b, h4c, h4d, h4e⟩, h5, h6, h7⟩ := x
  have h4 : F.size ≤ M ∧ F.wt ≤ 60 * M ∧ fw ⟨k, m, e, t, h.na, h.nc, h.ns⟩ F := ⟨h4a, h4b, h4c, fun e => h4d (by rcases hk6 with hk6 | hk6; (exact hk6 ▸ e); (exact absurd e hk6)), h4e⟩
  exact ⟨⟨⟨k1, k2, ⟨k3.1, k3.2.1, by show t.size ≤ maxLen; unfold maxLen; omega⟩, k4⟩, h2⟩, h3, h4, h5, ht, h7⟩
theorem own_ne {w : World} {B B' n n' s s' : Nat} {e e' : TypeId} {v v' : Value} {xs xs' : List Value} (h : w.ownsRow B e s v n xs) (h' : w.ownsRow B' e' s' v' n' xs') (hne : e ≠ e') {g : Nat} (hg : v.ownBlock = some g) : v'.ownBlock ≠ some g := by
  intro hg'
  rcases h.2 with ⟨rfl, _⟩ | ⟨g1, _, _, rfl, _, h1, _⟩
  · cases hg
  · rcases h'.2 with ⟨rfl, _⟩ | ⟨g2, _, _, rfl, _, h2, _⟩
    · cases hg'
    · cases hg; cases hg'
      rw [h1] at h2
      cases h2
      exact hne rfl
theorem ValS.name {B0 L M b vb : Nat} {w ws : World} {h : Hd} {a na : Option Addr} {c nc : Nat} {F : Vo} {s : ByteArray} (hv : ValS B0 L M w h a c F) (hbB : b < B0) (hF : (oneV h a c F).Blk (fun x => x < vb)) (hob : blkOf na = blkOf h.na ∨ ∃ g, blkOf na = some g ∧ vb < g) (hnv : ∀ x, blkOf h.na = some x → ¬ x = vb) (hL : L ≤ 3) (hs : s.size ≤ 10)
    (hO : Otr b (blkOf h.na) w ws) (hown : ws.ownsRow B0 9 1 (.slice na (h.ns.length + 1) nc) (h.ns.length + 1) (texts (h.ns ++ [s]))) :
    AnyS B0 M ws ⟨h.k, h.m, h.e, h.t, na, nc, h.ns ++ [s]⟩ a c F ∧ (oneV ⟨h.k, h.m, h.e, h.t, na, nc, h.ns ++ [s]⟩ a c F).Blk (fun x => ¬ x = vb) := by
  obtain ⟨⟨⟨l1, l2, l3, l4⟩, l5, l6, l7⟩, h6, h1, hk, hB⟩ := hv
  have h6' : ws.ownsRow B0 28 6 (.slice a F.len c) F.len F.cells := hO.own h6 hbB (fun g hg => by rw [← ownBlock_blkOf (n := h.ns.length) (c := h.nc)]; exact fun e => own_ne h6 h1 (by decide) hg e.symm)
  have hb4 : F.Blk (fun x => ¬ x = b ∧ some x ≠ blkOf h.na) := hB.mono fun x hx => ⟨by omega, hx.2.2⟩
  have hs7 : ∀ x ∈ h.ns ++ [s], x.size ≤ 10 := fun x hx => by
    rcases List.mem_append.1 hx with hx | hx
    · exact l7 x hx
    · simp at hx; subst hx; exact hs
  have hlen : (h.ns ++ [s]).length = h.ns.length + 1 := by simp
  have k0 := hO.kin hb4 hk.1
  have c0 := hO.cl hb4 hk.2
  obtain ⟨a', c', e6, hl6, hc6, h06⟩ := own_lies h6'
  cases e6
  have hone : (oneV ⟨h.k, h.m, h.e, h.t, na, nc, h.ns ++ [s]⟩ a c F).Kin ws := Vo.kin_one.2 ⟨hl6.in k0, hc6, hin_of (h := ⟨h.k, h.m, h.e, h.t, na, nc, h.ns ++ [s]⟩) (by rw [show (Hd.mk h.k h.m h.e h.t na nc (h.ns ++ [s])).ns.length = h.ns.length + 1 from hlen]; exact hown) l6 hs7⟩
  have hcl : (oneV ⟨h.k, h.m, h.e, h.t, na, nc, h.ns ++ [s]⟩ a c F).Cl ws := ⟨own_pl h6', c0, trivial⟩
  have hblk : (oneV ⟨h.k, h.m, h.e, h.t, na, nc, h.ns ++ [s]⟩ a c F).Blk (fun x => B0 ≤ x ∧ x < ws.heap.size) := by
    refine ⟨?_, ?_, hB.mono (fun x hx => ⟨hx.1.1, Nat.lt_of_lt_of_le hx.1.2 hO.1⟩), trivial⟩
    · obtain ⟨a2, c2, e2, _, _, h0⟩ := own_lies hown
      cases e2
      rcases h0 with h0 | ⟨x, e1, e2, e3⟩
      · omega
      · exact .inr ⟨x, 0, e1, e3, (hown.lt x e2).2⟩
    · rcases h06 with h0 | ⟨x, e1, e2, e3⟩
      · left
        cases F with
        | nil => rfl
        | cons h0' a0 c0 k0 n0 => exact absurd h0 (Nat.succ_ne_zero _)
      · exact .inr ⟨x, 0, e1, e3, (h6'.lt x e2).2⟩
  refine ⟨⟨⟨hone, hcl⟩, hblk, ⟨l2, by omega, ⟨l4.1, fun e => (by show F.len ≤ (h.ns ++ [s]).length; rw [hlen]; have := l4.2.1 e; omega), l4.2.2⟩⟩, by show (h.ns ++ [s]).length ≤ 4; rw [hlen]; omega, l6, hs7⟩, ?_⟩
  obtain ⟨f1, f2, f3, f4⟩ := hF
  refine ⟨?_, ?_, f3.mono fun x hx => by omega, trivial⟩
  · obtain ⟨a2, c2, e2, _, _, h0⟩ := own_lies hown
    cases e2
    rcases h0 with h0 | ⟨x, e1, e2, e3⟩
    · omega
    · refine .inr ⟨x, 0, e1, ?_⟩
      rw [ownBlock_blkOf] at e2
      rcases hob with hob | ⟨g, hob, hg⟩
      · rw [hob] at e2
        exact hnv x e2
      · rw [hob] at e2; cases e2; omega
  · rcases f2 with f2 | ⟨x, o, e1, e2⟩
    · exact .inl f2
    · exact .inr ⟨x, o, e1, by omega⟩
theorem AnyS.otr2 {B0 M b : Nat} {r : Option Nat} {W w' : World} {h : Hd} {a : Option Addr} {c : Nat} {F : Vo} (x : AnyS B0 M W h a c F) (k : Otr b r W w') (hb : b < B0) (hr : (oneV h a c F).Blk (fun x => some x ≠ r)) : AnyS B0 M w' h a c F := by
  obtain ⟨⟨h1, h2⟩, h3, h4⟩ := x
  have hB : (oneV h a c F).Blk (fun x => ¬ x = b ∧ some x ≠ r) := (h3.and hr).mono fun x hx => ⟨by have := hx.1.1; omega, hx.2⟩
  exact ⟨⟨k.kin hB h1, k.cl hB h2⟩, h3.mono fun x hx => ⟨hx.1, Nat.lt_of_lt_of_le hx.2 k.1⟩, h4⟩
/-- a value alone in an array -/
theorem AnyS.wrap {B0 M nb : Nat} {w ws : World} {h : Hd} {a : Option Addr} {c : Nat} {F : Vo} (x : AnyS B0 M w h a c F) (hb : Below w.heap.size w ws) (hnb : B0 ≤ nb) (T : TypeId) (hcs : ws.heap[nb]? = some (.cells (six h a F.len c).toArray T (0, 0))) : AnyS B0 (M + 1) ws (hdK 5) (some ⟨nb, 0, none⟩) 1 (oneV h a c F) := by
  obtain ⟨⟨h1, h2⟩, h3, ⟨l1, l2, l3⟩, l4, l5, l6⟩ := x
  have hsw := sWt_le l6
  have hlt : nb < ws.heap.size := (Array.getElem?_eq_some_iff.1 hcs).1
  have hlie : Lies ws (some ⟨nb, 0, none⟩) (oneV h a c F).cells := by
    rw [Vo.cells_oneV]
    refine .inr ⟨nb, 0, rfl, fun i v hv => ?_⟩
    rw [Nat.zero_add]
    unfold World.cell?
    rw [hcs]
    simpa using hv
  refine ⟨⟨Vo.kin_one.2 ⟨hlie.in (Vo.kin_grow hb h1), ⟨Nat.le_refl _, by unfold maxLen; omega⟩, .inl rfl, ⟨Nat.le_refl _, Nat.zero_le _⟩, by show (ByteArray.mk #[]).size ≤ maxLen; exact Nat.zero_le _⟩, ⟨.inr ⟨⟨nb, 0, none⟩, _, T, rfl, hcs⟩, h2.below hb, trivial⟩⟩, ⟨.inl rfl, .inr ⟨nb, 0, rfl, hnb, hlt⟩, h3.mono fun x hx => ⟨hx.1, Nat.lt_of_lt_of_le hx.2 hb.size⟩, trivial⟩, ⟨?_, ?_, ?_⟩, Nat.zero_le _, Nat.zero_le _, fun s hs => by cases hs⟩
  · show F.size + 1 + 0 ≤ M + 1; omega
  · show h.t.size + F.wt + sWt h.ns + 1 + 0 ≤ 60 * (M + 1); omega
  · exact ⟨⟨l4, l3.1, trivial⟩, fun e => absurd e (by decide), ⟨⟨l3.2.1, l5, l6⟩, l3.2.2, trivial⟩⟩
end Go.Proofs.Ytfgchdnpbbgmjaa
/- A region that makes two lists and a box, whatever order: what is known in between. -/
namespace Go.Proofs.Ytfgchdnpbbgmjaa
open Go.RowKit
attribute [local go_sem] cell_alloc_is frozen_alloc_is
/-- a block is noted under a number -/
def updO (f : Nat → Option Nat) (i : Nat) (o : Option Nat) : Nat → Option Nat := fun k => if k = i then o else f k
/-- six cells, that may be written -/
def BoxZ (w : World) (g : Nat) : Prop := w.heap[g]? = some (.cells #[.int .i64 0, .int .i64 0, .int .i64 0, .string ⟨#[]⟩, .slice none 0 0, .slice none 0 0] 28 (0, 0))
def zero6L : List Value := [.int .i64 0, .int .i64 0, .int .i64 0, .string ⟨#[]⟩, .slice none 0 0, .slice none 0 0]
/-- the blocks that are noted are new and apart -/
def ApT (W0 w : World) (f : Nat → Option Nat) : Prop := (∀ i j g, f i = some g → f j = some g → i = j) ∧ ∀ i g, f i = some g → W0.heap.size ≤ g ∧ g < w.heap.size
def InvT (W0 w : World) (f : Nat → Option Nat) (s : ByteArray) (vN : Value) (cN : Nat) (LN : List Value) (vI : Value) (cI : Nat) (LI : List Value) (a0 a4 a6 a11 a14 : Bool) : Prop :=
  Below W0.heap.size W0 w ∧ ApT W0 w f ∧
  (a0 = true → vN.ownBlock = f 0 ∧ w.ownsRow W0.heap.size 9 1 vN cN LN) ∧
  (a4 = true → ∃ g, f 1 = some g ∧ Own0 w W0.heap.size g [.string s]) ∧
  (a6 = true → vI.ownBlock = f 2 ∧ w.ownsRow W0.heap.size 28 6 vI cI LI) ∧
  (a11 = true → ∃ g, f 3 = some g ∧ Own0 w W0.heap.size g zero6L) ∧
  (a14 = true → ∃ g, f 4 = some g ∧ BoxZ w g)
theorem ApT.upd {W0 w w' : World} {f : Nat → Option Nat} (h : ApT W0 w f) {i : Nat} {o : Option Nat} (hz : w.heap.size ≤ w'.heap.size) (hW : W0.heap.size ≤ w.heap.size) (ho : o = f i ∨ o = some w.heap.size ∧ w.heap.size < w'.heap.size) : ApT W0 w' (updO f i o) := by
  refine ⟨fun a b g ha hb => ?_, fun a g ha => ?_⟩
  · unfold updO at ha hb
    by_cases e1 : a = i
    · by_cases e2 : b = i
      · rw [e1, e2]
      · rw [if_pos e1] at ha; rw [if_neg e2] at hb
        rcases ho with ho | ⟨ho, _⟩
        · exact h.1 _ _ g (by rw [e1, ← ho]; exact ha) hb
        · rw [ho] at ha; cases ha; have := (h.2 _ _ hb).2; omega
    · rw [if_neg e1] at ha
      by_cases e2 : b = i
      · rw [if_pos e2] at hb
        rcases ho with ho | ⟨ho, _⟩
        · exact h.1 _ _ g ha (by rw [e2, ← ho]; exact hb)
        · rw [ho] at hb; cases hb; have := (h.2 _ _ ha).2; omega
      · rw [if_neg e2] at hb; exact h.1 _ _ g ha hb
  · unfold updO at ha
    by_cases e1 : a = i
    · rw [if_pos e1] at ha
      rcases ho with ho | ⟨ho, h2⟩
      · rw [ho] at ha; have := h.2 _ _ ha; omega
      · rw [ho] at ha; cases ha; exact ⟨hW, h2⟩
    · rw [if_neg e1] at ha; have := h.2 _ _ ha; omega
theorem updO_at (f : Nat → Option Nat) (i : Nat) (o : Option Nat) : updO f i o i = o := if_pos rfl
theorem updO_ne (f : Nat → Option Nat) {i j : Nat} (o : Option Nat) (h : j ≠ i) : updO f i o j = f j := if_neg h
/-- a step that writes into the block under a number, or nowhere -/
theorem InvT.step {W0 w w' : World} {f : Nat → Option Nat} {s : ByteArray} {vN vI : Value} {cN cI : Nat} {LN LI : List Value} {a0 a4 a6 a11 a14 : Bool} (h : InvT W0 w f s vN cN LN vI cI LI a0 a4 a6 a11 a14) (i : Nat) (o : Option Nat) (hb : Below W0.heap.size W0 w') (hz : w.heap.size ≤ w'.heap.size)
    (ho : o = f i ∨ o = some w.heap.size ∧ w.heap.size < w'.heap.size) (hk : ∀ x, x < w.heap.size → some x ≠ f i → w'.heap[x]? = w.heap[x]?)
    (b0 b4 b6 b11 b14 : Bool) (vN' vI' : Value) (cN' cI' : Nat) (LN' LI' : List Value)
    (h0 : b0 = true → (i ≠ 0 ∧ a0 = true ∧ vN' = vN ∧ cN' = cN ∧ LN' = LN) ∨ (i = 0 ∧ vN'.ownBlock = o ∧ w'.ownsRow W0.heap.size 9 1 vN' cN' LN'))
    (h4 : b4 = true → (i ≠ 1 ∧ a4 = true) ∨ (i = 1 ∧ ∃ g, o = some g ∧ Own0 w' W0.heap.size g [.string s]))
    (h6 : b6 = true → (i ≠ 2 ∧ a6 = true ∧ vI' = vI ∧ cI' = cI ∧ LI' = LI) ∨ (i = 2 ∧ vI'.ownBlock = o ∧ w'.ownsRow W0.heap.size 28 6 vI' cI' LI'))
    (h11 : b11 = true → (i ≠ 3 ∧ a11 = true) ∨ (i = 3 ∧ ∃ g, o = some g ∧ Own0 w' W0.heap.size g zero6L))
    (h14 : b14 = true → (i ≠ 4 ∧ a14 = true) ∨ (i = 4 ∧ ∃ g, o = some g ∧ BoxZ w' g)) :
    InvT W0 w' (updO f i o) s vN' cN' LN' vI' cI' LI' b0 b4 b6 b11 b14 := by
  obtain ⟨q0, q1, p0, p4, p6, p11, p14⟩ := h
  have hne : ∀ {j g}, j ≠ i → f j = some g → some g ≠ f i := fun hj hg e => hj (q1.1 _ _ _ hg e.symm)
  have hrow : ∀ {e : TypeId} {size : Nat} {v : Value} {n : Nat} {xs : List Value} {j : Nat}, j ≠ i → v.ownBlock = f j → w.ownsRow W0.heap.size e size v n xs → w'.ownsRow W0.heap.size e size v n xs := by
    rintro e size v n xs j hj hv ⟨r1, r2⟩
    refine ⟨r1, ?_⟩
    rcases r2 with r2 | ⟨g, cap, cur, rfl, e2, e3, e4⟩
    · exact .inl r2
    · have hfj : f j = some g := hv.symm
      exact .inr ⟨g, cap, cur, rfl, e2, (hk g (q1.2 _ _ hfj).2 (hne hj hfj)).trans e3, e4⟩
  have hown : ∀ {g : Nat} {L : List Value} {j : Nat}, j ≠ i → f j = some g → Own0 w W0.heap.size g L → Own0 w' W0.heap.size g L := by
    rintro g L j hj hg ⟨r1, r2, r3⟩
    refine ⟨r1, Nat.lt_of_lt_of_le r2 hz, fun x v hx => ?_⟩
    rw [World.cell?_of_block (a := ⟨g, x, none⟩) (hk g (q1.2 _ _ hg).2 (hne hj hg))]
    exact r3 x v hx
  refine ⟨hb, q1.upd hz q0.size ho, fun e => ?_, fun e => ?_, fun e => ?_, fun e => ?_, fun e => ?_⟩
  · rcases h0 e with ⟨hi, ha, rfl, rfl, rfl⟩ | ⟨rfl, h1, h2⟩
    · rw [updO_ne f o (Ne.symm hi)]
      exact ⟨(p0 ha).1, hrow (Ne.symm hi) (p0 ha).1 (p0 ha).2⟩
    · rw [updO_at]; exact ⟨h1, h2⟩
  · rcases h4 e with ⟨hi, ha⟩ | ⟨rfl, g, h1, h2⟩
    · obtain ⟨g, hg, ho⟩ := p4 ha
      rw [updO_ne f o (Ne.symm hi)]
      exact ⟨g, hg, hown (Ne.symm hi) hg ho⟩
    · rw [updO_at]; exact ⟨g, h1, h2⟩
  · rcases h6 e with ⟨hi, ha, rfl, rfl, rfl⟩ | ⟨rfl, h1, h2⟩
    · rw [updO_ne f o (Ne.symm hi)]
      exact ⟨(p6 ha).1, hrow (Ne.symm hi) (p6 ha).1 (p6 ha).2⟩
    · rw [updO_at]; exact ⟨h1, h2⟩
  · rcases h11 e with ⟨hi, ha⟩ | ⟨rfl, g, h1, h2⟩
    · obtain ⟨g, hg, ho⟩ := p11 ha
      rw [updO_ne f o (Ne.symm hi)]
      exact ⟨g, hg, hown (Ne.symm hi) hg ho⟩
    · rw [updO_at]; exact ⟨g, h1, h2⟩
  · rcases h14 e with ⟨hi, ha⟩ | ⟨rfl, g, h1, h2⟩
    · obtain ⟨g, hg, ho⟩ := p14 ha
      rw [updO_ne f o (Ne.symm hi)]
      exact ⟨g, hg, (hk g (q1.2 _ _ hg).2 (hne (Ne.symm hi) hg)).trans ho⟩
    · rw [updO_at]; exact ⟨g, h1, h2⟩
theorem InvT.nothing {W0 w w' : World} {f : Nat → Option Nat} {s : ByteArray} {vN vI : Value} {cN cI : Nat} {LN LI : List Value} {a0 a4 a6 a11 a14 : Bool} (h : InvT W0 w f s vN cN LN vI cI LI a0 a4 a6 a11 a14) (hb : Below w.heap.size w w') : Below W0.heap.size W0 w' := h.1.trans (hb.mono h.1.size)
theorem InvT.alloc0 {W0 w : World} {f : Nat → Option Nat} {s : ByteArray} {vN vI : Value} {cN cI : Nat} {LN LI : List Value} {a0 a4 a6 a11 a14 : Bool} (h : InvT W0 w f s vN cN LN vI cI LI a0 a4 a6 a11 a14) : InvT W0 (w.alloc (.cells #[] 9)) (updO f 0 (some w.heap.size)) s (.slice (some ⟨w.heap.size, 0, none⟩) 0 0) 0 [] vI cI LI true a4 a6 a11 a14 := by
  have hb : Below w.heap.size w (w.alloc (.cells #[] 9)) := (Below.refl _ _).alloc (Nat.le_refl _) _
  exact h.step 0 _ (h.nothing hb) hb.size (.inr ⟨rfl, by simp⟩) (fun x hx _ => hb.block x hx) _ _ _ _ _ _ _ _ _ _ _ (fun _ => .inr ⟨rfl, rfl, own_nothing w _ 1 _ h.1.size⟩) (fun e => .inl ⟨by omega, e⟩) (fun e => .inl ⟨by omega, e, rfl, rfl, rfl⟩) (fun e => .inl ⟨by omega, e⟩) (fun e => .inl ⟨by omega, e⟩)
theorem InvT.alloc4 {W0 w : World} {f : Nat → Option Nat} {s : ByteArray} {vN vI : Value} {cN cI : Nat} {LN LI : List Value} {a0 a4 a6 a11 a14 : Bool} (h : InvT W0 w f s vN cN LN vI cI LI a0 a4 a6 a11 a14) : InvT W0 (w.alloc (.cells #[.string s] 9)) (updO f 1 (some w.heap.size)) s vN cN LN vI cI LI a0 true a6 a11 a14 := by
  have hb : Below w.heap.size w (w.alloc (.cells #[.string s] 9)) := (Below.refl _ _).alloc (Nat.le_refl _) _
  exact h.step 1 _ (h.nothing hb) hb.size (.inr ⟨rfl, by simp⟩) (fun x hx _ => hb.block x hx) _ _ _ _ _ _ _ _ _ _ _ (fun e => .inl ⟨by omega, e, rfl, rfl, rfl⟩) (fun _ => .inr ⟨rfl, _, rfl, Own0.new w _ [.string s] _ h.1.size⟩) (fun e => .inl ⟨by omega, e, rfl, rfl, rfl⟩) (fun e => .inl ⟨by omega, e⟩) (fun e => .inl ⟨by omega, e⟩)
theorem InvT.alloc6 {W0 w : World} {f : Nat → Option Nat} {s : ByteArray} {vN vI : Value} {cN cI : Nat} {LN LI : List Value} {a0 a4 a6 a11 a14 : Bool} (h : InvT W0 w f s vN cN LN vI cI LI a0 a4 a6 a11 a14) : InvT W0 (w.alloc (.cells #[] 28)) (updO f 2 (some w.heap.size)) s vN cN LN (.slice (some ⟨w.heap.size, 0, none⟩) 0 0) 0 [] a0 a4 true a11 a14 := by
  have hb : Below w.heap.size w (w.alloc (.cells #[] 28)) := (Below.refl _ _).alloc (Nat.le_refl _) _
  exact h.step 2 _ (h.nothing hb) hb.size (.inr ⟨rfl, by simp⟩) (fun x hx _ => hb.block x hx) _ _ _ _ _ _ _ _ _ _ _ (fun e => .inl ⟨by omega, e, rfl, rfl, rfl⟩) (fun e => .inl ⟨by omega, e⟩) (fun _ => .inr ⟨rfl, rfl, own_nothing w _ 6 _ h.1.size⟩) (fun e => .inl ⟨by omega, e⟩) (fun e => .inl ⟨by omega, e⟩)
theorem InvT.alloc11 {W0 w : World} {f : Nat → Option Nat} {s : ByteArray} {vN vI : Value} {cN cI : Nat} {LN LI : List Value} {a0 a4 a6 a11 a14 : Bool} (h : InvT W0 w f s vN cN LN vI cI LI a0 a4 a6 a11 a14) : InvT W0 (w.alloc (.cells #[.int .i64 0, .int .i64 0, .int .i64 0, .string ⟨#[]⟩, .slice none 0 0, .slice none 0 0] 28)) (updO f 3 (some w.heap.size)) s vN cN LN vI cI LI a0 a4 a6 true a14 := by
  have hb : Below w.heap.size w (w.alloc (.cells #[.int .i64 0, .int .i64 0, .int .i64 0, .string ⟨#[]⟩, .slice none 0 0, .slice none 0 0] 28)) := (Below.refl _ _).alloc (Nat.le_refl _) _
  exact h.step 3 _ (h.nothing hb) hb.size (.inr ⟨rfl, by simp⟩) (fun x hx _ => hb.block x hx) _ _ _ _ _ _ _ _ _ _ _ (fun e => .inl ⟨by omega, e, rfl, rfl, rfl⟩) (fun e => .inl ⟨by omega, e⟩) (fun e => .inl ⟨by omega, e, rfl, rfl, rfl⟩) (fun _ => .inr ⟨rfl, _, rfl, Own0.new w _ zero6L _ h.1.size⟩) (fun e => .inl ⟨by omega, e⟩)
theorem InvT.alloc14 {W0 w : World} {f : Nat → Option Nat} {s : ByteArray} {vN vI : Value} {cN cI : Nat} {LN LI : List Value} {a0 a4 a6 a11 a14 : Bool} (h : InvT W0 w f s vN cN LN vI cI LI a0 a4 a6 a11 a14) : InvT W0 (w.alloc (.cells #[.int .i64 0, .int .i64 0, .int .i64 0, .string ⟨#[]⟩, .slice none 0 0, .slice none 0 0] 28)) (updO f 4 (some w.heap.size)) s vN cN LN vI cI LI a0 a4 a6 a11 true := by
  have hb : Below w.heap.size w (w.alloc (.cells #[.int .i64 0, .int .i64 0, .int .i64 0, .string ⟨#[]⟩, .slice none 0 0, .slice none 0 0] 28)) := (Below.refl _ _).alloc (Nat.le_refl _) _
  exact h.step 4 _ (h.nothing hb) hb.size (.inr ⟨rfl, by simp⟩) (fun x hx _ => hb.block x hx) _ _ _ _ _ _ _ _ _ _ _ (fun e => .inl ⟨by omega, e, rfl, rfl, rfl⟩) (fun e => .inl ⟨by omega, e⟩) (fun e => .inl ⟨by omega, e, rfl, rfl, rfl⟩) (fun e => .inl ⟨by omega, e⟩) (fun _ => .inr ⟨rfl, _, rfl, World.alloc_heap_new w _⟩)
theorem InvT.appN {W0 w : World} {f : Nat → Option Nat} {s : ByteArray} {vN vI : Value} {cN cI : Nat} {LN LI : List Value} {a4 a6 a11 a14 : Bool} {w' : World} {v' : Value} {c' : Nat} {L' : List Value} (h : InvT W0 w f s vN cN LN vI cI LI true a4 a6 a11 a14) (hown : w'.ownsRow W0.heap.size 9 1 v' c' L') (hg : w.grownBy w' vN.ownBlock) (hbl : v'.ownBlock = vN.ownBlock ∨ v'.ownBlock = some w.heap.size) :
    InvT W0 w' (updO f 0 v'.ownBlock) s v' c' L' vI cI LI true a4 a6 a11 a14 := by
  have hv := (h.2.2.1 rfl).1
  refine h.step 0 _ (below_grown h.1 (h.2.2.1 rfl).2 hg h.1.size) hg.size ?_ (fun x hx hne => hg.block x hx (by rw [hv]; exact hne)) _ _ _ _ _ _ _ _ _ _ _ (fun _ => .inr ⟨rfl, rfl, hown⟩) (fun e => .inl ⟨by omega, e⟩) (fun e => .inl ⟨by omega, e, rfl, rfl, rfl⟩) (fun e => .inl ⟨by omega, e⟩) (fun e => .inl ⟨by omega, e⟩)
  rcases hbl with hbl | hbl
  · exact .inl (hbl.trans hv)
  · exact .inr ⟨hbl, (hown.lt _ hbl).2⟩
theorem InvT.appI {W0 w : World} {f : Nat → Option Nat} {s : ByteArray} {vN vI : Value} {cN cI : Nat} {LN LI : List Value} {a0 a4 a11 a14 : Bool} {w' : World} {v' : Value} {c' : Nat} {L' : List Value} (h : InvT W0 w f s vN cN LN vI cI LI a0 a4 true a11 a14) (hown : w'.ownsRow W0.heap.size 28 6 v' c' L') (hg : w.grownBy w' vI.ownBlock) (hbl : v'.ownBlock = vI.ownBlock ∨ v'.ownBlock = some w.heap.size) :
    InvT W0 w' (updO f 2 v'.ownBlock) s vN cN LN v' c' L' a0 a4 true a11 a14 := by
  have hv := (h.2.2.2.2.1 rfl).1
  refine h.step 2 _ (below_grown h.1 (h.2.2.2.2.1 rfl).2 hg h.1.size) hg.size ?_ (fun x hx hne => hg.block x hx (by rw [hv]; exact hne)) _ _ _ _ _ _ _ _ _ _ _ (fun e => .inl ⟨by omega, e, rfl, rfl, rfl⟩) (fun e => .inl ⟨by omega, e⟩) (fun _ => .inr ⟨rfl, rfl, hown⟩) (fun e => .inl ⟨by omega, e⟩) (fun e => .inl ⟨by omega, e⟩)
  rcases hbl with hbl | hbl
  · exact .inl (hbl.trans hv)
  · exact .inr ⟨hbl, (hown.lt _ hbl).2⟩
end Go.Proofs.Ytfgchdnpbbgmjaa
