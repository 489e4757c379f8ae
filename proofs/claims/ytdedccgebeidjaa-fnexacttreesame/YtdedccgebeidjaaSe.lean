/- TreeSame of the specification. -/
import Derived.Test.YtdedccgebeidjaaSc
namespace Go.Proofs.Ytdedccgebeidjaa
open Go.RowKit
/-- two boxes' lists, a tree of each, and nothing old changed -/
abbrev HeldS (W0 : World) (x4 y4 : Nat) (sx sy : Value) (b o b2 o2 : Nat) (F G : Fo) (j : Nat) (w : World) : Prop :=
  (w.cell? ⟨x4, 4, none⟩ = some sx ∧ w.cell? ⟨y4, 4, none⟩ = some sy) ∧
  (w.cell? ⟨b, o + j * 5, none⟩ = some (.int .i64 (F.kindAt j)) ∧ w.cell? ⟨b, o + j * 5 + 1, none⟩ = some (.string (F.textAt j)) ∧ w.cell? ⟨b, o + j * 5 + 2, none⟩ = some (.int .i64 (F.manAt j)) ∧ w.cell? ⟨b, o + j * 5 + 3, none⟩ = some (.int .i64 (F.expAt j)) ∧ w.cell? ⟨b, o + j * 5 + 4, none⟩ = some (.slice (F.addrAt j) (F.kidsAt j).len (F.capAt j))) ∧
  (w.cell? ⟨b2, o2 + j * 5, none⟩ = some (.int .i64 (G.kindAt j)) ∧ w.cell? ⟨b2, o2 + j * 5 + 1, none⟩ = some (.string (G.textAt j)) ∧ w.cell? ⟨b2, o2 + j * 5 + 2, none⟩ = some (.int .i64 (G.manAt j)) ∧ w.cell? ⟨b2, o2 + j * 5 + 3, none⟩ = some (.int .i64 (G.expAt j)) ∧ w.cell? ⟨b2, o2 + j * 5 + 4, none⟩ = some (.slice (G.addrAt j) (G.kidsAt j).len (G.capAt j))) ∧
  Below W0.heap.size W0 w
/-- a truth that says whether -/
def SaysT (p : Prop) (r : Ending) : Prop := ∃ q : Bool, r = .returned (.bool q) ∧ (q = true ↔ p)
set_option maxRecDepth 100000 in
set_option maxHeartbeats 3000000 in
theorem sTreeSame_any (N : Nat) : ∀ (x y : It) (w : World), x.F.size < N → N ≤ 2000000 → x.F.In w x.a → y.F.In w y.a →
    Calls Try.prog 17 #[nodeV x.k x.t x.m x.e x.a x.F.len x.c, nodeV y.k y.t y.m y.e y.a y.F.len y.c] w fun r w' => SaysT (same2 (x, y)) r ∧ Below w.heap.size w w' := by
  induction N with
  | zero => intro x y w h; omega
  | succ N ih =>
    intro x y w hN hN2 hx hy
    have HH := hsame_iff (x, y)
    have hlx := x.F.len_le
    cases hh : hsame (x, y)
    · have hno : ¬ same2 (x, y) := fun ht => by have := same2_head ht; rw [hh] at this; cases this
      have HNO : Hid (¬ same2 (x, y)) := hno
      clear hno ih
      obtain ⟨xk, xt, xm, xe, xa, xF, xc⟩ := x
      obtain ⟨yk, yt, ym, ye, ya, yF, yc⟩ := y
      have hhs : headSame xk xt xm xe xF.len yk yt ym ye yF.len = false := hh
      dsimp only at hN hlx ⊢
      clear hh HH hx hy
      have hB0 := ((Below.refl _ w).alloc (Nat.le_refl _) (.cells #[.int .i64 xk, .string xt, .int .i64 xm, .int .i64 xe, .slice xa xF.len xc] 32)).alloc (by simp) (.cells #[.int .i64 yk, .string yt, .int .i64 ym, .int .i64 ye, .slice ya yF.len yc] 32)
      by_cases h1 : xk = yk
      · subst h1
        cases h2 : (xt.toList == yt.toList)
        · go_enter Try.func17, Try.ntmps17
          go_wp2_with fail
          go_ret
          exact ⟨⟨false, rfl, fun h => (by cases h), fun h => absurd h HNO.out⟩, hB0⟩
        · by_cases h3 : xm = ym
          · subst h3
            by_cases h4 : xe = ye
            · subst h4
              have h5 : ((xF.len : Int) != (yF.len : Int)) = true := by
                have h2' := eq_of_beq h2
                have : ¬ xF.len = yF.len := by
                  intro e
                  unfold headSame at hhs
                  rw [decide_eq_true rfl, decide_eq_true h2', decide_eq_true rfl, decide_eq_true rfl, decide_eq_true e] at hhs
                  cases hhs
                simp; omega
              clear hhs
              go_enter Try.func17, Try.ntmps17
              go_wp2_with fail
              go_ret
              exact ⟨⟨false, rfl, fun h => (by cases h), fun h => absurd h HNO.out⟩, hB0⟩
            · have h4' : (xe == ye) = false := by simp [h4]
              clear hhs
              go_enter Try.func17, Try.ntmps17
              go_wp2_with fail
              all_goals
                go_ret
                exact ⟨⟨false, rfl, fun h => (by cases h), fun h => absurd h HNO.out⟩, hB0⟩
          · have h3' : (xm == ym) = false := by simp [h3]
            clear hhs
            go_enter Try.func17, Try.ntmps17
            go_wp2_with fail
            all_goals
              go_ret
              exact ⟨⟨false, rfl, fun h => (by cases h), fun h => absurd h HNO.out⟩, hB0⟩
      · have h1' : (xk != yk) = true := by simp [h1]
        clear hhs
        go_enter Try.func17, Try.ntmps17
        go_wp2_with fail
        go_ret
        exact ⟨⟨false, rfl, fun h => (by cases h), fun h => absurd h HNO.out⟩, hB0⟩
    · obtain ⟨⟨h1, h2, h3, h4⟩, h5⟩ := HH.1 hh
      dsimp only at h1 h2 h3 h4 h5
      have HSm : Hid (same2 (x, y) ↔ ∀ i, i < x.F.len → same2 (x.F.itAt i, y.F.itAt i)) := ⟨fun h => alike_kids h.2, fun h => ⟨⟨h1, h2, h3, h4⟩, alike_of_kids h5 h⟩⟩
      obtain ⟨xk, xt, xm, xe, xa, xF, xc⟩ := x
      obtain ⟨yk, yt, ym, ye, ya, yF, yc⟩ := y
      dsimp only at *
      subst h1 h2 h3 h4
      obtain ⟨n, hn⟩ : ∃ n, n = xF.len := ⟨_, rfl⟩
      rw [← h5, ← hn]
      have HnX : Hid (n = xF.len) := hn
      have HnY : Hid (n = yF.len) := hn.trans h5
      rw [← hn] at hlx HSm
      clear hn h5 HH hh
      have hB0 := ((Below.refl _ w).alloc (Nat.le_refl _) (.cells #[.int .i64 xk, .string xt, .int .i64 xm, .int .i64 xe, .slice xa n xc] 32)).alloc (by simp) (.cells #[.int .i64 xk, .string xt, .int .i64 xm, .int .i64 xe, .slice ya n yc] 32)
      have cx : ((w.alloc (.cells #[.int .i64 xk, .string xt, .int .i64 xm, .int .i64 xe, .slice xa n xc] 32)).alloc (.cells #[.int .i64 xk, .string xt, .int .i64 xm, .int .i64 xe, .slice ya n yc] 32)).cell? ⟨w.heap.size, 4, none⟩ = some (.slice xa n xc) := by simp
      have cy : ((w.alloc (.cells #[.int .i64 xk, .string xt, .int .i64 xm, .int .i64 xe, .slice xa n xc] 32)).alloc (.cells #[.int .i64 xk, .string xt, .int .i64 xm, .int .i64 xe, .slice ya n yc] 32)).cell? ⟨w.heap.size + 1, 4, none⟩ = some (.slice ya n yc) := by simp
      go_enter Try.func17, Try.ntmps17
      go_wp2_with fail
      generalize (w.alloc (.cells #[.int .i64 xk, .string xt, .int .i64 xm, .int .i64 xe, .slice xa n xc] 32)).alloc (.cells #[.int .i64 xk, .string xt, .int .i64 xm, .int .i64 xe, .slice ya n yc] 32) = W0 at *
      go_loopw [5] (fun i wr => ∃ j : Nat, i = .int .i64 j ∧ j ≤ n ∧ (∀ i, i < j → same2 (xF.itAt i, yF.itAt i)) ∧ Below W0.heap.size W0 wr) (fun i _ => n - (intOf i).toNat)
      case atStart => exact ⟨0, rfl, Nat.zero_le _, fun i hi => absurd hi (Nat.not_lt_zero _), Below.refl _ _⟩
      case round =>
        obtain ⟨j, rfl, hj, hd, hb⟩ := hrel
        have HD : Hid (∀ i, i < j → same2 (xF.itAt i, yF.itAt i)) := hd
        clear hd
        have hBw := hB0.trans (hb.mono hB0.size)
        have cx' := (hb.cell (p := ⟨w.heap.size, 4, none⟩) (World.block_lt_of_cell? _ _ cx)).trans cx
        have cy' := (hb.cell (p := ⟨w.heap.size + 1, 4, none⟩) (World.block_lt_of_cell? _ _ cy)).trans cy
        by_cases hjn : j < n
        · have hjl : (j : Int) < (n : Int) := by omega
          have hjX : j < xF.len := by rw [← HnX.out]; exact hjn
          have hjY : j < yF.len := by rw [← HnY.out]; exact hjn
          obtain ⟨b, o, rfl, hFr⟩ := Fo.from_of_len' hx hjX
          obtain ⟨b2, o2, rfl, hGr⟩ := Fo.from_of_len' hy hjY
          have HSof : Hid (∀ W, Below W0.heap.size W0 W → HeldS W0 w.heap.size (w.heap.size + 1) (.slice (some ⟨b, o, none⟩) n xc) (.slice (some ⟨b2, o2, none⟩) n yc) b o b2 o2 xF yF j W) := fun W h =>
            ⟨⟨(h.cell (p := ⟨w.heap.size, 4, none⟩) (World.block_lt_of_cell? _ _ cx)).trans cx, (h.cell (p := ⟨w.heap.size + 1, 4, none⟩) (World.block_lt_of_cell? _ _ cy)).trans cy⟩, (Fo.from_at (Fo.from_grow (hB0.trans (h.mono hB0.size)) xF b o hFr) hjX).1, (Fo.from_at (Fo.from_grow (hB0.trans (h.mono hB0.size)) yF b2 o2 hGr) hjY).1, h⟩
          have HK : Hid (∀ W, Below W0.heap.size W0 W → (xF.kidsAt j).In W (xF.addrAt j) ∧ (yF.kidsAt j).In W (yF.addrAt j)) := fun W h =>
            ⟨(Fo.from_at (Fo.from_grow (hB0.trans (h.mono hB0.size)) xF b o hFr) hjX).2.1, (Fo.from_at (Fo.from_grow (hB0.trans (h.mono hB0.size)) yF b2 o2 hGr) hjY).2.1⟩
          have hsz := Fo.size_at hjX
          have HC := fun W (hW : (xF.kidsAt j).In W (xF.addrAt j) ∧ (yF.kidsAt j).In W (yF.addrAt j)) => ih (xF.itAt j) (yF.itAt j) W (by show (xF.kidsAt j).size < N; omega) (by omega) hW.1 hW.2
          have hS0 := HSof.out _ hb.drew
          clear hFr hGr cx cy hx hy hjX hjY
          go_wp2_with fail
          refine wp_region_held_drew (S := fun w' => HeldS W0 w.heap.size (w.heap.size + 1) (.slice (some ⟨b, o, none⟩) n xc) (.slice (some ⟨b2, o2, none⟩) n yc) b o b2 o2 xF yF j w') (by kernel_rfl) hS0 (fun hHeld => ?_)
          refine wpAnyH_take (i := 0) (v := .pointer (some ⟨w.heap.size, 4, none⟩)) rfl (by kernel_rfl) (by kernel_rfl) (by kernel_rfl) (fun _ _ _ h => h) (Or.inl ⟨by rfl, ?_⟩) (by assumption) ?_
          · intro w hSw
            (try dsimp only at hSw)
            go_simp
          (try simp only [Act.put, List.getElem_toArray, List.getElem_cons_zero, List.setIfInBounds_toArray, List.set_cons_zero, List.set_cons_succ])
          refine wpAnyH_take (i := 1) (v := .slice (some ⟨b, o, none⟩) n xc) rfl (by kernel_rfl) (by kernel_rfl) (by kernel_rfl) (fun _ _ _ h => h) (Or.inl ⟨by rfl, ?_⟩) (by assumption) ?_
          · intro w hSw
            (try dsimp only at hSw)
            go_simp
          (try simp only [Act.put, List.getElem_toArray, List.getElem_cons_zero, List.getElem_cons_succ, List.setIfInBounds_toArray, List.set_cons_zero, List.set_cons_succ])
          refine wpAnyH_take (i := 2) (v := .int .i64 j) rfl (by kernel_rfl) (by kernel_rfl) (by kernel_rfl) (fun _ _ _ h => h) (Or.inl ⟨by rfl, ?_⟩) (by assumption) ?_
          · intro w hSw
            (try dsimp only at hSw)
            go_simp
          (try simp only [Act.put, List.getElem_toArray, List.getElem_cons_zero, List.getElem_cons_succ, List.setIfInBounds_toArray, List.set_cons_zero, List.set_cons_succ])
          refine wpAnyH_take (i := 3) (v := .pointer (some ⟨b, o + j * 5, none⟩)) rfl (by kernel_rfl) (by kernel_rfl) (by kernel_rfl) (fun _ _ _ h => h) (Or.inl ⟨by rfl, ?_⟩) (by assumption) ?_
          · intro w hSw
            (try dsimp only at hSw)
            go_simp
          (try simp only [Act.put, List.getElem_toArray, List.getElem_cons_zero, List.getElem_cons_succ, List.setIfInBounds_toArray, List.set_cons_zero, List.set_cons_succ])
          refine wpAnyH_take (i := 4) (v := nodeV (xF.kindAt j) (xF.textAt j) (xF.manAt j) (xF.expAt j) (xF.addrAt j) (xF.kidsAt j).len (xF.capAt j)) rfl (by kernel_rfl) (by kernel_rfl) (by kernel_rfl) (fun _ _ _ h => h) (Or.inl ⟨by rfl, ?_⟩) (by assumption) ?_
          · intro w hSw
            (try dsimp only at hSw)
            go_simp
          (try simp only [Act.put, List.getElem_toArray, List.getElem_cons_zero, List.getElem_cons_succ, List.setIfInBounds_toArray, List.set_cons_zero, List.set_cons_succ])
          refine wpAnyH_take (i := 5) (v := .pointer (some ⟨w.heap.size + 1, 4, none⟩)) rfl (by kernel_rfl) (by kernel_rfl) (by kernel_rfl) (fun _ _ _ h => h) (Or.inl ⟨by rfl, ?_⟩) (by assumption) ?_
          · intro w hSw
            (try dsimp only at hSw)
            go_simp
          (try simp only [Act.put, List.getElem_toArray, List.getElem_cons_zero, List.getElem_cons_succ, List.setIfInBounds_toArray, List.set_cons_zero, List.set_cons_succ])
          refine wpAnyH_take (i := 6) (v := .slice (some ⟨b2, o2, none⟩) n yc) rfl (by kernel_rfl) (by kernel_rfl) (by kernel_rfl) (fun _ _ _ h => h) (Or.inl ⟨by rfl, ?_⟩) (by assumption) ?_
          · intro w hSw
            (try dsimp only at hSw)
            go_simp
          (try simp only [Act.put, List.getElem_toArray, List.getElem_cons_zero, List.getElem_cons_succ, List.setIfInBounds_toArray, List.set_cons_zero, List.set_cons_succ])
          refine wpAnyH_take (i := 7) (v := .int .i64 j) rfl (by kernel_rfl) (by kernel_rfl) (by kernel_rfl) (fun _ _ _ h => h) (Or.inl ⟨by rfl, ?_⟩) (by assumption) ?_
          · intro w hSw
            (try dsimp only at hSw)
            go_simp
          (try simp only [Act.put, List.getElem_toArray, List.getElem_cons_zero, List.getElem_cons_succ, List.setIfInBounds_toArray, List.set_cons_zero, List.set_cons_succ])
          refine wpAnyH_take (i := 8) (v := .pointer (some ⟨b2, o2 + j * 5, none⟩)) rfl (by kernel_rfl) (by kernel_rfl) (by kernel_rfl) (fun _ _ _ h => h) (Or.inl ⟨by rfl, ?_⟩) (by assumption) ?_
          · intro w hSw
            (try dsimp only at hSw)
            go_simp
          (try simp only [Act.put, List.getElem_toArray, List.getElem_cons_zero, List.getElem_cons_succ, List.setIfInBounds_toArray, List.set_cons_zero, List.set_cons_succ])
          refine wpAnyH_take (i := 9) (v := nodeV (yF.kindAt j) (yF.textAt j) (yF.manAt j) (yF.expAt j) (yF.addrAt j) (yF.kidsAt j).len (yF.capAt j)) rfl (by kernel_rfl) (by kernel_rfl) (by kernel_rfl) (fun _ _ _ h => h) (Or.inl ⟨by rfl, ?_⟩) (by assumption) ?_
          · intro w hSw
            (try dsimp only at hSw)
            go_simp
          (try simp only [Act.put, List.getElem_toArray, List.getElem_cons_zero, List.getElem_cons_succ, List.setIfInBounds_toArray, List.set_cons_zero, List.set_cons_succ])
          refine wpAnyH_ready (rs := [10]) (by kernel_rfl) (by simp) ?_
          refine AllReadyH.cons rfl (fun K hK => ?_) AllReadyH.nil
          go_simp
          refine (HC _ (HK.out _ hHeld.2.2.2)).mono ?_
          rintro r w2 ⟨⟨q, rfl, hq⟩, hb1⟩
          have HQ : Hid (q = true ↔ same2 (xF.itAt j, yF.itAt j)) := hq
          clear hq
          have hS := HSof.out _ (hHeld.2.2.2.trans (hb1.mono hHeld.2.2.2.size))
          go_wp2_with fail
          refine hK.out _ _ hS (fun hHeld => ?_)
          clear hK K hS
          refine wpAnyH_take (i := 11) (v := .bool (!q)) rfl (by kernel_rfl) (by kernel_rfl) (by kernel_rfl) (fun _ _ _ h => h) (Or.inl ⟨by rfl, ?_⟩) (by assumption) ?_
          · intro w hSw
            (try dsimp only at hSw)
            go_simp
          (try simp only [Act.put, List.getElem_toArray, List.getElem_cons_zero, List.getElem_cons_succ, List.setIfInBounds_toArray, List.set_cons_zero, List.set_cons_succ])
          refine wpAnyH_done (by kernel_rfl) ?_ _
          have hB2 := hB0.trans (hHeld.2.2.2.mono hB0.size)
          have hBL := hHeld.2.2.2
          cases q
          · have HR : Hid (¬ same2 (⟨xk, xt, xm, xe, some ⟨b, o, none⟩, xF, xc⟩, ⟨xk, xt, xm, xe, some ⟨b2, o2, none⟩, yF, yc⟩)) := fun h => by
              have := HQ.out.2 (HSm.out.1 h j hjn)
              cases this
            go_wp2_with fail
            go_ret
            exact ⟨⟨false, rfl, fun h => (by cases h), fun h => absurd h HR.out⟩, hB2⟩
          · have HR : Hid (∀ i, i < j + 1 → same2 (xF.itAt i, yF.itAt i)) := fun i hi => by
              rcases Nat.lt_succ_iff_lt_or_eq.1 hi with hi | rfl
              · exact HD.out i hi
              · exact HQ.out.1 rfl
            go_wp2_with fail
            go_round
            case rel => exact ⟨j + 1, by go_num, by omega, HR.out, hBL⟩
            case measure => simp [intOf]; omega
        · have hjl : ¬ (j : Int) < (n : Int) := by omega
          have e : j = n := by omega
          have HR : Hid (same2 (⟨xk, xt, xm, xe, xa, xF, xc⟩, ⟨xk, xt, xm, xe, ya, yF, yc⟩)) := HSm.out.2 (by rw [← e]; exact HD.out)
          go_wp2_with fail
          go_ret
          exact ⟨⟨true, rfl, fun _ => HR.out, fun _ => rfl⟩, hBw⟩
end Go.Proofs.Ytdedccgebeidjaa
