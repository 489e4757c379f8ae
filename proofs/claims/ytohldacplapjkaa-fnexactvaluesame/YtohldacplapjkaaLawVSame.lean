/- The law FnExactValueSame walked. -/
import Derived.Test.YtohldacplapjkaaWl
import Derived.Test.YtohldacplapjkaaVg
import Derived.Test.YtohldacplapjkaaWe
namespace Go.Proofs.Ytohldacplapjkaa
open Go.RowKit
set_option maxRecDepth 100000 in
set_option maxHeartbeats 2000000 in
theorem walk_FnExactValueSame (hd : Hd) (a : Option Addr) (F : Vo) (c : Nat) (hd2 : Hd) (a2 : Option Addr) (G : Vo) (c2 : Nat) (w : World) (hh : hd.In w) (hin : F.In w a) (hl : F.len ≤ c) (hc : c ≤ maxLen) (hh2 : hd2.In w) (hin2 : G.In w a2) (hl2 : G.len ≤ c2) (hc2 : c2 ≤ maxLen) :
    Calls Try.prog 4 #[valV hd a F.len c, valV hd2 a2 G.len c2] w fun r w' => r = .returned (.bool true) ∧ Below w.heap.size w w' := by
  have hsw := len_sWt hd.ns
  have hsw2 := len_sWt hd2.ns
  have hBp : Below w.heap.size w ((w.alloc (.cells #[.int .i64 hd.k, .int .i64 hd.m, .int .i64 hd.e, .string hd.t, .slice a F.len c, .slice hd.na hd.ns.length hd.nc] 27)).alloc (.cells #[.int .i64 hd2.k, .int .i64 hd2.m, .int .i64 hd2.e, .string hd2.t, .slice a2 G.len c2, .slice hd2.na hd2.ns.length hd2.nc] 27)) := ((Below.refl _ w).alloc (Nat.le_refl _) _).alloc (by simp) _
  have hAp : BxV w.heap.size hd (.slice a F.len c) ((w.alloc (.cells #[.int .i64 hd.k, .int .i64 hd.m, .int .i64 hd.e, .string hd.t, .slice a F.len c, .slice hd.na hd.ns.length hd.nc] 27)).alloc (.cells #[.int .i64 hd2.k, .int .i64 hd2.m, .int .i64 hd2.e, .string hd2.t, .slice a2 G.len c2, .slice hd2.na hd2.ns.length hd2.nc] 27)) := (BxV.new w hd (.slice a F.len c) 27).below ((Below.refl _ _).alloc (Nat.le_refl _) _)
  have hBq : BxV (w.heap.size + 1) hd2 (.slice a2 G.len c2) ((w.alloc (.cells #[.int .i64 hd.k, .int .i64 hd.m, .int .i64 hd.e, .string hd.t, .slice a F.len c, .slice hd.na hd.ns.length hd.nc] 27)).alloc (.cells #[.int .i64 hd2.k, .int .i64 hd2.m, .int .i64 hd2.e, .string hd2.t, .slice a2 G.len c2, .slice hd2.na hd2.ns.length hd2.nc] 27)) := by have h := BxV.new (w.alloc (.cells #[.int .i64 hd.k, .int .i64 hd.m, .int .i64 hd.e, .string hd.t, .slice a F.len c, .slice hd.na hd.ns.length hd.nc] 27)) hd2 (.slice a2 G.len c2) 27; have e : (w.alloc (.cells #[.int .i64 hd.k, .int .i64 hd.m, .int .i64 hd.e, .string hd.t, .slice a F.len c, .slice hd.na hd.ns.length hd.nc] 27)).heap.size = w.heap.size + 1 := (by simp); rw [e] at h; exact h
  go_enter Try.func4, Try.ntmps4
  obtain ⟨wp, hwp⟩ : ∃ wp, ((w.alloc (.cells #[.int .i64 hd.k, .int .i64 hd.m, .int .i64 hd.e, .string hd.t, .slice a F.len c, .slice hd.na hd.ns.length hd.nc] 27)).alloc (.cells #[.int .i64 hd2.k, .int .i64 hd2.m, .int .i64 hd2.e, .string hd2.t, .slice a2 G.len c2, .slice hd2.na hd2.ns.length hd2.nc] 27)) = wp := ⟨_, rfl⟩
  rw [hwp] at hBp hAp hBq
  have HX : Hid (∀ W, Below wp.heap.size wp W → BxV w.heap.size hd (.slice a F.len c) W ∧ BxV (w.heap.size + 1) hd2 (.slice a2 G.len c2) W) := fun W h => ⟨hAp.below h, hBq.below h⟩
  have HI : Hid (∀ W, Below wp.heap.size wp W → (F.In W a ∧ G.In W a2) ∧ hd.In W ∧ hd2.In W) := fun W h => ⟨⟨hin.grow (hBp.trans (h.mono hBp.size)), hin2.grow (hBp.trans (h.mono hBp.size))⟩, hh.grow (hBp.trans (h.mono hBp.size)), hh2.grow (hBp.trans (h.mono hBp.size))⟩
  have HB : Hid (∀ W, Below wp.heap.size wp W → Below w.heap.size w W) := fun W h => hBp.trans (h.mono hBp.size)
  have hB0 := Below.refl wp.heap.size wp
  have hwp' := hwp.symm
  clear hwp hin hin2 hAp hBq hBp hh hh2
  obtain ⟨⟨x0, x1, x2, x3, x4, x5⟩, y0, y1, y2, y3, y4, y5⟩ := HX.out _ hB0
  go_wp2_with fail
  rw [← hwp']
  clear hwp'
  refine (szValue_any hd a c F wp 1048576 (HI.out _ hB0).1.1 hl hc (HI.out _ hB0).2.1 (by omega)).mono ?_
  rintro r w1 ⟨rfl, hb1⟩
  have hB1 := hb1
  clear x0 x1 x2 x3 x4 x5 y0 y1 y2 y3 y4 y5
  obtain ⟨⟨x0, x1, x2, x3, x4, x5⟩, y0, y1, y2, y3, y4, y5⟩ := HX.out _ hB1
  clear hb1 hB0
  by_cases hneed : hd.t.size + F.wt + sWt hd.ns ≤ 1048576
  case neg =>
    have hd : leftOf (hd.t.size + F.wt + sWt hd.ns) 1048576 = -1 := by unfold leftOf; rw [if_neg hneed]
    rw [hd]
    go_wp2_with fail
    go_ret
    exact ⟨rfl, HB.out _ hB1⟩
  obtain ⟨d, hd, hdd⟩ : ∃ d : Nat, leftOf (hd.t.size + F.wt + sWt hd.ns) 1048576 = (d : Int) ∧ d ≤ 1048576 := ⟨1048576 - (hd.t.size + F.wt + sWt hd.ns), by unfold leftOf; rw [if_pos hneed], by omega⟩
  rw [hd]
  clear hd
  have hd0 : ¬ (d : Int) < 0 := by omega
  have hs : F.wt ≤ 1048576 := by omega
  have hsn : hd.ns.length ≤ 1048576 := by omega
  go_wp2_with fail
  refine (szValue_any hd2 a2 c2 G _ d (HI.out _ hB1).1.2 hl2 hc2 (HI.out _ hB1).2.2 hdd).mono ?_
  rintro r w2 ⟨rfl, hb2⟩
  have hB2 := hB1.trans (hb2.mono hB1.size)
  clear x0 x1 x2 x3 x4 x5 y0 y1 y2 y3 y4 y5
  obtain ⟨⟨x0, x1, x2, x3, x4, x5⟩, y0, y1, y2, y3, y4, y5⟩ := HX.out _ hB2
  clear hb2 hB1 hneed
  by_cases hneed2 : hd2.t.size + G.wt + sWt hd2.ns ≤ d
  case neg =>
    have hd : leftOf (hd2.t.size + G.wt + sWt hd2.ns) d = -1 := by unfold leftOf; rw [if_neg hneed2]
    rw [hd]
    go_wp2_with fail
    go_ret
    exact ⟨rfl, HB.out _ hB2⟩
  obtain ⟨d2, hd⟩ : ∃ d2 : Nat, leftOf (hd2.t.size + G.wt + sWt hd2.ns) d = (d2 : Int) := ⟨d - (hd2.t.size + G.wt + sWt hd2.ns), by unfold leftOf; rw [if_pos hneed2]⟩
  rw [hd]
  clear hd
  have hd20 : ¬ (d2 : Int) < 0 := by omega
  have hs2 : G.wt ≤ 1048576 := by omega
  have hsn2 : hd2.ns.length ≤ 1048576 := by omega
  clear hneed2
  clear x0 x1 x2 x3 x4 x5 y0 y1 y2 y3 y4 y5
  go_wp2_with fail
  refine ts8 (HX.out _ hB2).1 (HX.out _ hB2).2 (HI.out _ hB2).1.1 (HI.out _ hB2).1.2 hl hc (HI.out _ hB2).2.1 hs hsn hl2 hc2 (HI.out _ hB2).2.2 hs2 hsn2 (fun _ d _ _ _ h => by cases d <;> exact h) ?_
  intro w3 q1 v20 v21 v22 v23 v24 hq1 hb3
  have HQ1 : Hid (q1 = true ↔ same2V (⟨hd, a, F, c⟩, ⟨hd2, a2, G, c2⟩)) := hq1
  clear hq1
  have hB3 := hB2.trans (hb3.mono hB2.size)
  clear hb3 hB2
  obtain ⟨⟨x0, x1, x2, x3, x4, x5⟩, y0, y1, y2, y3, y4, y5⟩ := HX.out _ hB3
  go_wp2_with fail
  refine (toValue_any hd a c F _ hs hsn (HI.out _ hB3).1.1 hl hc (HI.out _ hB3).2.1).mono ?_
  rintro r w4 ⟨⟨nb, n2, F2, rfl, ha, hF2, hi2, hg⟩, hb4⟩
  have hB4a := hB3.trans (hb4.mono hB3.size)
  have hbx := (Below.refl w4.heap.size w4).alloc (Nat.le_refl _) (.cells #[.int .i64 (hd.to n2).k, .int .i64 (hd.to n2).m, .int .i64 (hd.to n2).e, .string (hd.to n2).t, .slice (some ⟨nb, 0, none⟩) F2.len F2.len, .slice (hd.to n2).na (hd.to n2).ns.length (hd.to n2).nc] 33)
  have hB4 := hB4a.trans (hbx.mono hB4a.size)
  have hXn := BxV.new w4 (hd.to n2) (.slice (some ⟨nb, 0, none⟩) F2.len F2.len) 33
  have hF4 := Vo.from_grow hbx F2 _ _ hF2
  have hg4 := hg.below hbx
  have hi4 := hi2.grow hbx
  clear x0 x1 x2 x3 x4 x5 y0 y1 y2 y3 y4 y5
  clear hi2 hF2 hg hb4 hB4a hB3 hbx
  obtain ⟨⟨x0, x1, x2, x3, x4, x5⟩, y0, y1, y2, y3, y4, y5⟩ := HX.out _ hB4
  go_wp2_with fail
  refine (toValue_any hd2 a2 c2 G _ hs2 hsn2 (HI.out _ hB4).1.2 hl2 hc2 (HI.out _ hB4).2.2).mono ?_
  rintro r w5 ⟨⟨nb2, n3, G2, rfl, ha2, hG2, hi3, hg2⟩, hb5⟩
  have hB5a := hB4.trans (hb5.mono hB4.size)
  have hby := (Below.refl w5.heap.size w5).alloc (Nat.le_refl _) (.cells #[.int .i64 (hd2.to n3).k, .int .i64 (hd2.to n3).m, .int .i64 (hd2.to n3).e, .string (hd2.to n3).t, .slice (some ⟨nb2, 0, none⟩) G2.len G2.len, .slice (hd2.to n3).na (hd2.to n3).ns.length (hd2.to n3).nc] 33)
  have hB5 := hB5a.trans (hby.mono hB5a.size)
  have hYn := BxV.new w5 (hd2.to n3) (.slice (some ⟨nb2, 0, none⟩) G2.len G2.len) 33
  have hz5 := hb5.trans (hby.mono hb5.size)
  have hX5 := hXn.below hz5
  have hF5 := Vo.from_grow hz5 F2 _ _ hF4
  have hg5 := hg4.below hz5
  have hG5 := Vo.from_grow hby G2 _ _ hG2
  have hgg5 := hg2.below hby
  have HG5 : Hid ((ItV.Good _ _ ∧ ItV.Good _ _) ∧ Hd.In _ _ ∧ Hd.In _ _) := ⟨⟨hg5, hgg5⟩, hi4.grow hz5, hi3.grow hby⟩
  clear x0 x1 x2 x3 x4 x5 y0 y1 y2 y3 y4 y5
  clear hF4 hg4 hXn hb5 hB5a hB4 hz5 hby hG2 hg2 hg5 hgg5 hi4 hi3
  have hs5 : F2.size ≤ 1048576 := by rw [Vo.alike_size ha]; exact Nat.le_trans F.size_wt hs
  go_wp2_with fail
  refine (iValueSame_any ⟨hd.to n2, some ⟨nb, 0, none⟩, F2, F2.len⟩ ⟨hd2.to n3, some ⟨nb2, 0, none⟩, G2, G2.len⟩ _ (.inr ⟨nb, 0, rfl, hF5⟩) (.inr ⟨nb2, 0, rfl, hG5⟩) (Nat.le_trans hs5 (by omega)) HG5.out.1.1 HG5.out.1.2 HG5.out.2.1 HG5.out.2.2).mono ?_
  rintro r w6 ⟨⟨q2, rfl, hq2⟩, hb6⟩
  have hqq : q1 = q2 := Bool.eq_iff_iff.2 (HQ1.out.trans (hq2.trans (same2_copyV ha ha2)).symm)
  have HI6 : Hid (Hd.In w6 (hd.to n2) ∧ Hd.In w6 (hd2.to n3)) := ⟨HG5.out.2.1.grow hb6, HG5.out.2.2.grow hb6⟩
  clear HQ1 hq2 HG5
  subst hqq
  have hB6 := hB5.trans (hb6.mono hB5.size)
  have hX6 := hX5.below hb6
  have hY6 := hYn.below hb6
  have hF6 := Vo.from_grow hb6 F2 _ _ hF5
  have hG6 := Vo.from_grow hb6 G2 _ _ hG5
  clear hX5 hYn hF5 hG5 hb6 hB5
  go_wp2_with fail
  refine ts14 (HX.out _ hB6).1 hX6 (HI.out _ hB6).1.1 hF6 HI6.out.1 ha hl hc (HI.out _ hB6).2.1 hs hsn (fun _ d _ _ _ h => by cases d <;> exact h) ?_
  intro w7 v35 v36 v37 v38 hb7
  have HI7 : Hid (Hd.In w7 (hd2.to n3)) := HI6.out.2.grow hb7
  clear HI6
  have hB7 := hB6.trans (hb7.mono hB6.size)
  have hY7 := hY6.below hb7
  have hG7 := Vo.from_grow hb7 G2 _ _ hG6
  clear hX6 hY6 hF6 hG6 hb7 hB6
  go_wp2_with fail
  refine ts16 (HX.out _ hB7).2 hY7 (HI.out _ hB7).1.2 hG7 HI7.out ha2 hl2 hc2 (HI.out _ hB7).2.2 hs2 hsn2 (fun _ d _ _ _ h => by cases d <;> exact h) ?_
  intro w8 v40 v41 v42 v43 hb8
  have hB8 := hB7.trans (hb8.mono hB7.size)
  clear hY7 hG7 hb8 hB7
  go_wp2_with fail
  go_ret
  exact ⟨rfl, HB.out _ hB8⟩
end Go.Proofs.Ytohldacplapjkaa
