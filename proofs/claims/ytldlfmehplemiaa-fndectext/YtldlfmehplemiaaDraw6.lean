/- Contracts: l14Dec once more (what it draws is in its form), DrawDecText, DrawDecRead. -/
import Derived.Test.YtldlfmehplemiaaDraw2
import Derived.Test.YtldlfmehplemiaaDrawW
import Derived.Test.YtldlfmehplemiaaTxtA
import Derived.Test.YtldlfmehplemiaaTr
namespace Go.Proofs.Ytldlfmehplemiaa
open Go.RowKit
attribute [local go_sem] cell_alloc_is frozen_alloc_is

set_option maxHeartbeats 1000000 in
theorem l14Dec_ok {w0 : World} {B b : Nat} {a : Option Addr} {len cap : Nat} {p : Int} {W : World} (h : Rd w0 B b a len cap p W) (p1 : p ≤ 90000) :
    Calls Try.prog 37 #[.pointer (some ⟨b, 0, none⟩)] W fun e w' => ∃ m x p', e = .returned (.agg #[.int .i64 m, .int .i64 x]) ∧ Dm.ok m x = true ∧ -99999999 ≤ m ∧ m ≤ 99999999 ∧ -8 ≤ x ∧ x ≤ 8 ∧ p' ≤ p + 10 ∧ Rd w0 B b a len cap p' w' ∧ Oth b W w' := by
  have hlt := h.lt
  have R0 : Rd w0 B b a len cap p (W.alloc (.cells #[.int .i64 0, .int .i64 0] 25)) := h.below ((Below.refl _ _).alloc (Nat.le_refl _) _)
  have T0 := Two.new W 0 0 25
  have O0 := (Oth.refl b W).alloc (.cells #[.int .i64 0, .int .i64 0] 25)
  have hne : ¬ W.heap.size = b := by omega
  go_enter Try.func37, Try.ntmps37
  go_wp2_with fail
  refine (pick_any _ R0 (by omega) (by omega) (by omega)).mono ?_
  rintro e w1 ⟨⟨v1, rfl, v10, v11⟩, s1⟩
  have R1 := R0.step s1
  have T1 := T0.stepped s1 hne
  have O1 := O0.stepped s1
  clear R0 T0 O0 s1
  go_wp2_with fail
  refine (pick_any _ R1 (by omega) (by omega) (by omega)).mono ?_
  rintro e w2 ⟨⟨v2, rfl, v20, v21⟩, s2⟩
  have R2 := R1.step s2
  have T2 := T1.stepped s2 hne
  have O2 := O1.stepped s2
  clear R1 T1 O1 s2
  go_wp2_with fail
  refine (pick_any _ R2 (by omega) (by omega) (by omega)).mono ?_
  rintro e w3 ⟨⟨v3, rfl, v30, v31⟩, s3⟩
  have R3 := R2.step s3
  have T3 := T2.stepped s3 hne
  have O3 := O2.stepped s3
  clear R2 T2 O2 s3
  go_wp2_with fail
  refine (pick_any _ R3 (by omega) (by omega) (by omega)).mono ?_
  rintro e w4 ⟨⟨v4, rfl, v40, v41⟩, s4⟩
  have R4 := R3.step s4
  have T4 := T3.stepped s4 hne
  have O4 := O3.stepped s4
  clear R3 T3 O3 s4
  have hl4 := R4.lt
  go_wp2_with fail
  refine (one_any (R4.below ((Below.refl _ _).alloc (Nat.le_refl _) (.cells #[.int .i64 v1, .int .i64 (v2 * 256 + v3), .int .i64 99999999, .int .i64 0, .int .i64 (-v4), .int .i64 25, .int .i64 (-99999999)] 3))) (by omega) w4.heap.size 7 [v1, v2 * 256 + v3, 99999999, 0, -v4, 25, -99999999] (by omega) rfl (by omega) (by omega) (cells_list w4 [v1, v2 * 256 + v3, 99999999, 0, -v4, 25, -99999999] 3)).mono ?_
  rintro e w5 ⟨⟨m, rfl, hm⟩, s5⟩
  have R5 := (R4.below ((Below.refl _ _).alloc (Nat.le_refl _) (.cells #[.int .i64 v1, .int .i64 (v2 * 256 + v3), .int .i64 99999999, .int .i64 0, .int .i64 (-v4), .int .i64 25, .int .i64 (-99999999)] 3))).step s5
  have T5 := (T4.alloc (by have := O4.1; have := World.block_lt_of_cell? w4 _ T4.1; omega) (.cells #[.int .i64 v1, .int .i64 (v2 * 256 + v3), .int .i64 99999999, .int .i64 0, .int .i64 (-v4), .int .i64 25, .int .i64 (-99999999)] 3)).stepped s5 hne
  have O5 := (O4.alloc (.cells #[.int .i64 v1, .int .i64 (v2 * 256 + v3), .int .i64 99999999, .int .i64 0, .int .i64 (-v4), .int .i64 25, .int .i64 (-99999999)] 3)).stepped s5
  have hmb : -99999999 ≤ m ∧ m ≤ 99999999 := by simp at hm; omega
  obtain ⟨mb1, mb2⟩ := hmb
  clear R4 T4 O4 s5 hm v10 v11 v20 v21 v30 v31 v40 v41 hl4
  have hl5 := R5.lt
  go_wp2_with fail
  refine (one_any (R5.below ((Below.refl _ _).alloc (Nat.le_refl _) (.cells #[.int .i64 0, .int .i64 0, .int .i64 (-1), .int .i64 (-2), .int .i64 2, .int .i64 (-8), .int .i64 8] 3))) (by omega) w5.heap.size 7 [0, 0, -1, -2, 2, -8, 8] (by omega) rfl (by omega) (by omega) (cells_list w5 [0, 0, -1, -2, 2, -8, 8] 3)).mono ?_
  rintro e w6 ⟨⟨x, rfl, hx⟩, s6⟩
  have R6 := (R5.below ((Below.refl _ _).alloc (Nat.le_refl _) (.cells #[.int .i64 0, .int .i64 0, .int .i64 (-1), .int .i64 (-2), .int .i64 2, .int .i64 (-8), .int .i64 8] 3))).step s6
  have T6 := (T5.alloc (World.block_lt_of_cell? _ _ T5.1) (.cells #[.int .i64 0, .int .i64 0, .int .i64 (-1), .int .i64 (-2), .int .i64 2, .int .i64 (-8), .int .i64 8] 3)).stepped s6 hne
  have O6 := (O5.alloc (.cells #[.int .i64 0, .int .i64 0, .int .i64 (-1), .int .i64 (-2), .int .i64 2, .int .i64 (-8), .int .i64 8] 3)).stepped s6
  have hxb : -8 ≤ x ∧ x ≤ 8 := by simp at hx; omega
  obtain ⟨xb1, xb2⟩ := hxb
  clear R5 T5 O5 s6 hx hl5
  go_wp2_with fail
  refine (l1New_any _ _ _ (by omega) (by omega) (by omega) (by omega)).mono ?_
  rintro e w7 ⟨rfl, hb7⟩
  have R7 := R6.below hb7
  have T7 := T6.below hb7 (World.block_lt_of_cell? _ _ T6.1)
  have O7 := O6.below hb7
  have HNO := hideIt3 (@Dm.norm_ok m x)
  have HNB := hideIt3 (Dm.norm_i64 m x)
  clear R6 T6 O6 hb7
  generalize Dm.norm m x = r at *
  obtain ⟨rm, rx, rb⟩ := r
  obtain ⟨c0, c1, f0, f1⟩ := id T7
  have hl7 : W.heap.size < w7.heap.size := World.block_lt_of_cell? _ _ T7.1
  have hB := R7.2.1
  cases rb
  · clear T7
    go_wp2_with fail
    refine bodyPost_ret (v := .agg #[.int .i64 1, .int .i64 0]) (by simp (maxDischargeDepth := 6) [results, Try.results37, go_sem, c0, c1]) rfl ⟨1, 0, p + 1 + 1 + 1 + 1 + 1 + 1, rfl, rfl, by omega, by omega, by omega, by omega, ?_, ?_, ?_⟩
    · omega
    · exact (Rd.set (Rd.set R7 (by omega) (by omega) _) (by omega) (by omega) _).below ((Below.refl _ _).alloc (Nat.le_refl _) _)
    · exact (Oth.set (Oth.set O7 (by omega) _) (by omega) _).alloc _
  · have hok := HNO.out rfl
    simp only at hok
    obtain ⟨k1, k2, k3, k4⟩ := Dm.ok_bd hok
    have HOK := hideIt3 hok
    clear T7 HNO HNB hok
    go_wp2_with fail
    refine bodyPost_ret (v := .agg #[.int .i64 rm, .int .i64 rx]) (by simp (maxDischargeDepth := 6) [results, Try.results37, go_sem, c0, c1]) rfl ⟨rm, rx, p + 1 + 1 + 1 + 1 + 1 + 1, rfl, HOK.out, by omega, by omega, by omega, by omega, ?_, ?_, ?_⟩
    · omega
    · exact (Rd.set (Rd.set R7 (by omega) (by omega) _) (by omega) (by omega) _).below ((Below.refl _ _).alloc (Nat.le_refl _) _)
    · exact (Oth.set (Oth.set O7 (by omega) _) (by omega) _).alloc _


set_option maxHeartbeats 400000 in
theorem drawDecText_any (W : World) (a : Option Addr) (len cap : Nat) (h : CodeIn W a len cap) :
    Calls Try.prog 13 #[.slice a len cap] W fun e w' => (∃ m x, e = .returned (.agg #[.int .i64 m, .int .i64 x])) ∧ Below W.heap.size W w' := by
  obtain ⟨W0, hW0⟩ : ∃ W0, W0 = W.alloc (.cells #[.int .i64 0, .int .i64 0] 25) := ⟨_, rfl⟩
  have hb0 : Below W.heap.size W W0 := by subst hW0; exact (Below.refl W.heap.size W).alloc (Nat.le_refl _) _
  have hsz : W0.heap.size = W.heap.size + 1 := by subst hW0; simp
  have T0 : Two W0 W.heap.size 0 0 := by subst hW0; exact Two.new W 0 0 25
  have h' := h.below hb0
  have hlt : W.heap.size < W0.heap.size := by omega
  clear hsz h
  go_enter Try.func13, Try.ntmps13
  go_wp2_with fail
  rw [← hW0]
  clear hW0
  refine (l1Open_any W0 a len cap h').mono ?_
  rintro e w1 ⟨len', rfl, hR⟩
  go_wp2_with fail
  refine (l14AnyDec_any hR (by omega)).mono ?_
  rintro e w2 ⟨m, x, q, rfl, _, _, _, _, _, hR2, _⟩
  have hB := hR2.1
  have T2 := T0.below hB hlt
  have hB2 : Below W.heap.size W w2 := hb0.trans (hB.mono (Nat.le_of_lt hlt))
  clear hR hR2 hB T0 h' hb0
  obtain ⟨c0, c1, f0, f1⟩ := T2
  go_wp2_with fail
  refine bodyPost_ret (v := .agg #[.int .i64 m, .int .i64 x]) (by simp (maxDischargeDepth := 6) [results, Try.results13, go_sem, c0, c1]) rfl ⟨⟨m, x, rfl⟩, ?_⟩
  with_reducible exact (hB2.setCell (p := ⟨W.heap.size, 0, none⟩) (Nat.le_refl _) _).setCell (p := ⟨W.heap.size, 1, none⟩) (Nat.le_refl _) _

/-- what DrawDecRead draws of, beside texts of numbers -/
def drawnTexts : List ByteArray := [⟨#[49, 46, 53, 48]⟩, ⟨#[45, 48]⟩, ⟨#[48, 49]⟩, ⟨#[49, 46]⟩, ⟨#[46, 53]⟩, ⟨#[]⟩, ⟨#[45]⟩, ⟨#[49, 101, 53]⟩, ⟨#[49, 50, 51, 52, 53, 54, 55, 56, 57, 48, 49, 50, 51, 52, 53, 54, 55]⟩, ⟨#[49, 50, 51, 52, 53, 54, 55, 56, 57, 48, 49, 50, 51, 52, 53, 54, 55, 56]⟩, ⟨#[48, 46, 48, 48, 48, 48, 48, 48, 48, 49]⟩, ⟨#[45, 45, 49]⟩, ⟨#[49, 48, 48, 48, 48, 48, 48, 48, 48]⟩, ⟨#[49, 46, 50, 46, 51]⟩]
/-- a text that DrawDecRead draws -/
def DrawnText (s : ByteArray) : Prop := (∃ m x, Dm.ok m x = true ∧ s = ⟨(Tm.text m x).toArray⟩) ∨ s ∈ drawnTexts

set_option maxHeartbeats 1000000 in
theorem drawDecRead_any (W : World) (a : Option Addr) (len cap : Nat) (h : CodeIn W a len cap) :
    Calls Try.prog 14 #[.slice a len cap] W fun e w' => (∃ s, e = .returned (.string s) ∧ DrawnText s) ∧ Below W.heap.size W w' := by
  go_enter Try.func14, Try.ntmps14
  go_wp2_with fail
  refine (l1Open_any W a len cap h).mono ?_
  rintro e w1 ⟨len', rfl, hR⟩
  go_wp2_with fail
  refine (l14Dec_ok hR (by omega)).mono ?_
  rintro e w2 ⟨m, x, q, rfl, hok, m1, m2, x1, x2, hq, hR2, _⟩
  have HOK := hideIt3 hok
  clear hok hR
  go_wp2_with fail
  refine (l1Text_any m x _ m1 m2 x1 x2).mono ?_
  rintro e w3 ⟨rfl, hb3⟩
  have hR3 := hR2.below hb3
  clear hR2 hb3
  have hlt := hR3.lt
  generalize hT : Tm.text m x = T
  go_wp2_with fail
  have hR4 := hR3.below ((Below.refl w3.heap.size w3).alloc (Nat.le_refl _) (.cells #[.string ⟨#[49, 46, 53, 48]⟩, .string ⟨#[45, 48]⟩, .string ⟨#[48, 49]⟩, .string ⟨#[49, 46]⟩, .string ⟨#[46, 53]⟩, .string ⟨#[]⟩, .string ⟨#[45]⟩, .string ⟨#[49, 101, 53]⟩, .string ⟨#[49, 50, 51, 52, 53, 54, 55, 56, 57, 48, 49, 50, 51, 52, 53, 54, 55]⟩, .string ⟨#[49, 50, 51, 52, 53, 54, 55, 56, 57, 48, 49, 50, 51, 52, 53, 54, 55, 56]⟩, .string ⟨#[48, 46, 48, 48, 48, 48, 48, 48, 48, 49]⟩, .string ⟨#[45, 45, 49]⟩, .string ⟨#[49, 48, 48, 48, 48, 48, 48, 48, 48]⟩, .string ⟨#[49, 46, 50, 46, 51]⟩] 9))
  refine (of_any hR4 (by omega) w3.heap.size 14 drawnTexts (by omega) rfl (by omega) (by omega) ?_).mono ?_
  · intro i hi
    have : i = 0 ∨ i = 1 ∨ i = 2 ∨ i = 3 ∨ i = 4 ∨ i = 5 ∨ i = 6 ∨ i = 7 ∨ i = 8 ∨ i = 9 ∨ i = 10 ∨ i = 11 ∨ i = 12 ∨ i = 13 := by omega
    rcases this with rfl | rfl | rfl | rfl | rfl | rfl | rfl | rfl | rfl | rfl | rfl | rfl | rfl | rfl
    all_goals simp [drawnTexts]
  · rintro e w4 ⟨⟨v, rfl, hv⟩, hs⟩
    have HV := hideIt3 hv
    have hR5 := hR4.step hs
    clear hR4 hs hv
    go_wp2_with fail
    have hl5 := hR5.lt
    have hR6 := hR5.below ((Below.refl w4.heap.size w4).alloc (Nat.le_refl _) (.cells #[.string ⟨T.toArray⟩, .string v] 9))
    refine (pick_any _ hR6 (by omega) (by omega) (by omega)).mono ?_
    rintro e w5 ⟨⟨z, rfl, z0, z1⟩, hs5⟩
    have hB5 := (hR6.step hs5).1
    have hc0 : w5.cell? ⟨w4.heap.size, 0, none⟩ = some (.string ⟨T.toArray⟩) := (hs5.other.1 _ 0 (by omega)).trans (by simp)
    have hc1 : w5.cell? ⟨w4.heap.size, 1, none⟩ = some (.string v) := (hs5.other.1 _ 1 (by omega)).trans (by simp)
    clear hR3 hR5 hR6 hs5
    have hz : z = 0 ∨ z = 1 := by omega
    rcases hz with rfl | rfl
    · go_wp2_with fail
      go_ret
      exact ⟨⟨_, rfl, Or.inl ⟨m, x, HOK.out, by rw [hT]⟩⟩, hB5⟩
    · go_wp2_with fail
      go_ret
      exact ⟨⟨_, rfl, Or.inr HV.out⟩, hB5⟩
end Go.Proofs.Ytldlfmehplemiaa
