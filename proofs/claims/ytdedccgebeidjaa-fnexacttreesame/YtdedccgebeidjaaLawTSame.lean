/- The law FnExactTreeSame walked. -/
import Derived.Test.YtdedccgebeidjaaSl
import Derived.Test.YtdedccgebeidjaaFoO
namespace Go.Proofs.Ytdedccgebeidjaa
open Go.RowKit
set_option maxRecDepth 100000 in
set_option maxHeartbeats 2000000 in
theorem walk_FnExactTreeSame (k : Int) (t : ByteArray) (m e : Int) (a : Option Addr) (F : Fo) (c : Nat) (k2 : Int) (t2 : ByteArray) (m2 e2 : Int) (a2 : Option Addr) (G : Fo) (c2 : Nat) (w : World) (hh : HeadOk k t m e) (hin : F.In w a) (hl : F.len ≤ c) (hc : c ≤ maxLen) (_hA : F.All HeadOk) (hh2 : HeadOk k2 t2 m2 e2) (hin2 : G.In w a2) (hl2 : G.len ≤ c2) (hc2 : c2 ≤ maxLen) (_hA2 : G.All HeadOk) :
    Calls Try.prog 6 #[nodeV k t m e a F.len c, nodeV k2 t2 m2 e2 a2 G.len c2] w fun r w' => r = .returned (.bool true) ∧ Below w.heap.size w w' := by
  have ht := hh.2.1
  have ht2 := hh2.2.1
  clear hh hh2
  have hsw := F.size_wt
  have hsw2 := G.size_wt
  have hBp : Below w.heap.size w ((w.alloc (.cells #[.int .i64 k, .string t, .int .i64 m, .int .i64 e, .slice a F.len c] 26)).alloc (.cells #[.int .i64 k2, .string t2, .int .i64 m2, .int .i64 e2, .slice a2 G.len c2] 26)) := ((Below.refl _ w).alloc (Nat.le_refl _) _).alloc (by simp) _
  have hAp : Bx w.heap.size k t m e (.slice a F.len c) ((w.alloc (.cells #[.int .i64 k, .string t, .int .i64 m, .int .i64 e, .slice a F.len c] 26)).alloc (.cells #[.int .i64 k2, .string t2, .int .i64 m2, .int .i64 e2, .slice a2 G.len c2] 26)) := (Bx.new w k t m e (.slice a F.len c) 26).below ((Below.refl _ _).alloc (Nat.le_refl _) _)
  have hBq : Bx (w.heap.size + 1) k2 t2 m2 e2 (.slice a2 G.len c2) ((w.alloc (.cells #[.int .i64 k, .string t, .int .i64 m, .int .i64 e, .slice a F.len c] 26)).alloc (.cells #[.int .i64 k2, .string t2, .int .i64 m2, .int .i64 e2, .slice a2 G.len c2] 26)) := by have h := Bx.new (w.alloc (.cells #[.int .i64 k, .string t, .int .i64 m, .int .i64 e, .slice a F.len c] 26)) k2 t2 m2 e2 (.slice a2 G.len c2) 26; have e : (w.alloc (.cells #[.int .i64 k, .string t, .int .i64 m, .int .i64 e, .slice a F.len c] 26)).heap.size = w.heap.size + 1 := (by simp); rw [e] at h; exact h
  go_enter Try.func6, Try.ntmps6
  obtain ⟨wp, hwp⟩ : ∃ wp, ((w.alloc (.cells #[.int .i64 k, .string t, .int .i64 m, .int .i64 e, .slice a F.len c] 26)).alloc (.cells #[.int .i64 k2, .string t2, .int .i64 m2, .int .i64 e2, .slice a2 G.len c2] 26)) = wp := ⟨_, rfl⟩
  rw [hwp] at hBp hAp hBq
  have HX : Hid (∀ W, Below wp.heap.size wp W → Bx w.heap.size k t m e (.slice a F.len c) W ∧ Bx (w.heap.size + 1) k2 t2 m2 e2 (.slice a2 G.len c2) W) := fun W h => ⟨hAp.below h, hBq.below h⟩
  have HI : Hid (∀ W, Below wp.heap.size wp W → F.In W a ∧ G.In W a2) := fun W h => ⟨hin.grow (hBp.trans (h.mono hBp.size)), hin2.grow (hBp.trans (h.mono hBp.size))⟩
  have HB : Hid (∀ W, Below wp.heap.size wp W → Below w.heap.size w W) := fun W h => hBp.trans (h.mono hBp.size)
  have hB0 := Below.refl wp.heap.size wp
  have hwp' := hwp.symm
  clear hwp hin hin2 hAp hBq hBp
  obtain ⟨⟨x0, x1, x2, x3, x4⟩, y0, y1, y2, y3, y4⟩ := HX.out _ hB0
  go_wp2_with fail
  rw [← hwp']
  clear hwp'
  refine (szNode_any k t m e a c F wp 1048576 (HI.out _ hB0).1 hl hc ht (by omega)).mono ?_
  rintro r w1 ⟨rfl, hb1⟩
  have hB1 := hb1
  clear x0 x1 x2 x3 x4 y0 y1 y2 y3 y4
  obtain ⟨⟨x0, x1, x2, x3, x4⟩, y0, y1, y2, y3, y4⟩ := HX.out _ hB1
  clear hb1 hB0
  by_cases hneed : t.size + F.wt ≤ 1048576
  case neg =>
    have hd : leftOf (t.size + F.wt) 1048576 = -1 := by unfold leftOf; rw [if_neg hneed]
    rw [hd]
    go_wp2_with fail
    go_ret
    exact ⟨rfl, HB.out _ hB1⟩
  obtain ⟨d, hd, hdd⟩ : ∃ d : Nat, leftOf (t.size + F.wt) 1048576 = (d : Int) ∧ d ≤ 1048576 := ⟨1048576 - (t.size + F.wt), by unfold leftOf; rw [if_pos hneed], by omega⟩
  rw [hd]
  clear hd
  have hd0 : ¬ (d : Int) < 0 := by omega
  have hs : F.size ≤ 1048576 := by omega
  go_wp2_with fail
  refine (szNode_any k2 t2 m2 e2 a2 c2 G _ d (HI.out _ hB1).2 hl2 hc2 ht2 hdd).mono ?_
  rintro r w2 ⟨rfl, hb2⟩
  have hB2 := hB1.trans (hb2.mono hB1.size)
  clear x0 x1 x2 x3 x4 y0 y1 y2 y3 y4
  obtain ⟨⟨x0, x1, x2, x3, x4⟩, y0, y1, y2, y3, y4⟩ := HX.out _ hB2
  clear hb2 hB1 hneed
  by_cases hneed2 : t2.size + G.wt ≤ d
  case neg =>
    have hd : leftOf (t2.size + G.wt) d = -1 := by unfold leftOf; rw [if_neg hneed2]
    rw [hd]
    go_wp2_with fail
    go_ret
    exact ⟨rfl, HB.out _ hB2⟩
  obtain ⟨d2, hd⟩ : ∃ d2 : Nat, leftOf (t2.size + G.wt) d = (d2 : Int) := ⟨d - (t2.size + G.wt), by unfold leftOf; rw [if_pos hneed2]⟩
  rw [hd]
  clear hd
  have hd20 : ¬ (d2 : Int) < 0 := by omega
  have hs2 : G.size ≤ 1048576 := by omega
  clear hneed2
  clear x0 x1 x2 x3 x4 y0 y1 y2 y3 y4
  go_wp2_with fail
  refine ts8 (HX.out _ hB2).1 (HX.out _ hB2).2 (HI.out _ hB2).1 (HI.out _ hB2).2 hl hc ht hs hl2 hc2 ht2 hs2 (fun _ d _ _ _ h => by cases d <;> exact h) ?_
  intro w3 q1 v20 v21 v22 v23 v24 hq1 hb3
  have HQ1 : Hid (q1 = true ↔ same2 (⟨k, t, m, e, a, F, c⟩, ⟨k2, t2, m2, e2, a2, G, c2⟩)) := hq1
  clear hq1
  have hB3 := hB2.trans (hb3.mono hB2.size)
  clear hb3 hB2
  obtain ⟨⟨x0, x1, x2, x3, x4⟩, y0, y1, y2, y3, y4⟩ := HX.out _ hB3
  go_wp2_with fail
  refine (toNodeC_any k t m e a c F _ (by omega) (HI.out _ hB3).1 hl hc ht).mono ?_
  rintro r w4 ⟨⟨nb, F2, rfl, ha, hF2, hg⟩, hb4⟩
  have hB4a := hB3.trans (hb4.mono hB3.size)
  have hbx := (Below.refl w4.heap.size w4).alloc (Nat.le_refl _) (.cells #[.int .i64 k, .string t, .int .i64 m, .int .i64 e, .slice (some ⟨nb, 0, none⟩) F2.len F2.len] 32)
  have hB4 := hB4a.trans (hbx.mono hB4a.size)
  have hXn := Bx.new w4 k t m e (.slice (some ⟨nb, 0, none⟩) F2.len F2.len) 32
  have hF4 := Fo.from_grow hbx F2 _ _ hF2
  have hg4 := hg.below hbx
  clear x0 x1 x2 x3 x4 y0 y1 y2 y3 y4
  clear hF2 hg hb4 hB4a hB3 hbx
  obtain ⟨⟨x0, x1, x2, x3, x4⟩, y0, y1, y2, y3, y4⟩ := HX.out _ hB4
  go_wp2_with fail
  refine (toNodeC_any k2 t2 m2 e2 a2 c2 G _ (by omega) (HI.out _ hB4).2 hl2 hc2 ht2).mono ?_
  rintro r w5 ⟨⟨nb2, G2, rfl, ha2, hG2, hg2⟩, hb5⟩
  have hB5a := hB4.trans (hb5.mono hB4.size)
  have hby := (Below.refl w5.heap.size w5).alloc (Nat.le_refl _) (.cells #[.int .i64 k2, .string t2, .int .i64 m2, .int .i64 e2, .slice (some ⟨nb2, 0, none⟩) G2.len G2.len] 32)
  have hB5 := hB5a.trans (hby.mono hB5a.size)
  have hYn := Bx.new w5 k2 t2 m2 e2 (.slice (some ⟨nb2, 0, none⟩) G2.len G2.len) 32
  have hz5 := hb5.trans (hby.mono hb5.size)
  have hX5 := hXn.below hz5
  have hF5 := Fo.from_grow hz5 F2 _ _ hF4
  have hg5 := hg4.below hz5
  have hG5 := Fo.from_grow hby G2 _ _ hG2
  have hgg5 := hg2.below hby
  have HG5 : Hid (It.Good _ _ ∧ It.Good _ _) := ⟨hg5, hgg5⟩
  clear x0 x1 x2 x3 x4 y0 y1 y2 y3 y4
  clear hF4 hg4 hXn hb5 hB5a hB4 hz5 hby hG2 hg2 hg5 hgg5
  have hs5 : F2.size ≤ 1048576 := by rw [Fo.alike_size ha]; exact hs
  go_wp2_with fail
  refine (iTreeSame_any ⟨k, t, m, e, some ⟨nb, 0, none⟩, F2, F2.len⟩ ⟨k2, t2, m2, e2, some ⟨nb2, 0, none⟩, G2, G2.len⟩ _ (.inr ⟨nb, 0, rfl, hF5⟩) (.inr ⟨nb2, 0, rfl, hG5⟩) (Nat.le_trans hs5 (by omega)) HG5.out.1 HG5.out.2).mono ?_
  rintro r w6 ⟨⟨q2, rfl, hq2⟩, hb6⟩
  have hqq : q1 = q2 := Bool.eq_iff_iff.2 (HQ1.out.trans (hq2.trans (same2_copy ha ha2)).symm)
  clear HQ1 hq2 HG5
  subst hqq
  have hB6 := hB5.trans (hb6.mono hB5.size)
  have hX6 := hX5.below hb6
  have hY6 := hYn.below hb6
  have hF6 := Fo.from_grow hb6 F2 _ _ hF5
  have hG6 := Fo.from_grow hb6 G2 _ _ hG5
  clear hX5 hYn hF5 hG5 hb6 hB5
  go_wp2_with fail
  refine ts14 (HX.out _ hB6).1 hX6 (HI.out _ hB6).1 hF6 ha hl hc ht hs (fun _ d _ _ _ h => by cases d <;> exact h) ?_
  intro w7 v35 v36 v37 v38 hb7
  have hB7 := hB6.trans (hb7.mono hB6.size)
  have hY7 := hY6.below hb7
  have hG7 := Fo.from_grow hb7 G2 _ _ hG6
  clear hX6 hY6 hF6 hG6 hb7 hB6
  go_wp2_with fail
  refine ts16 (HX.out _ hB7).2 hY7 (HI.out _ hB7).2 hG7 ha2 hl2 hc2 ht2 hs2 (fun _ d _ _ _ h => by cases d <;> exact h) ?_
  intro w8 v40 v41 v42 v43 hb8
  have hB8 := hB7.trans (hb8.mono hB7.size)
  clear hY7 hG7 hb8 hB7
  go_wp2_with fail
  go_ret
  exact ⟨rfl, HB.out _ hB8⟩
end Go.Proofs.Ytdedccgebeidjaa
