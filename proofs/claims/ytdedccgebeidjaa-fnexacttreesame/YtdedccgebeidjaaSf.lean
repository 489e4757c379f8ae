/- Two trees that are the same, by the program: the loop walked. -/
import Derived.Test.YtdedccgebeidjaaSj
namespace Go.Proofs.Ytdedccgebeidjaa
open Go.RowKit
theorem row_ne_map {w : World} {base size g n cap mb : Nat} {e : TypeId} {xs : List Value} {L : List (Pl2 × Value)} (h : w.ownsRow base e size (.slice (some ⟨g, 0, none⟩) n cap) n xs) (hm : pl2Keys.Has w mb L) : g ≠ mb := by
  intro e'
  obtain ⟨es, clock, hh, _⟩ := hm
  rcases h.2 with ⟨h', _⟩ | ⟨g', cap', cur, h', _, hg, _⟩
  · cases h'
  · simp only [Value.slice.injEq, Option.some.injEq, Addr.mk.injEq, and_true, true_and] at h'
    obtain ⟨rfl, rfl⟩ := h'
    rw [e', hh] at hg
    cases hg
set_option maxRecDepth 100000 in
set_option maxHeartbeats 2000000 in
theorem sameAll_any (x y : It) (w : World) (hx : x.F.In w x.a) (hy : y.F.In w y.a) (hs : x.F.size ≤ 1100000) (hgx : x.Good w) (hgy : y.Good w) :
    Calls Try.prog 30 #[nodeV x.k x.t x.m x.e x.a x.F.len x.c, nodeV y.k y.t y.m y.e y.a y.F.len y.c] w fun r w' => SaysT (same2 (x, y)) r ∧ Below w.heap.size w w' := by
  have hmm : ∀ W, (Instr.makeMap 84 none).run Try.prog W = .ok (.map (some W.heap.size)) (W.alloc (.map #[] 0)) := fun W => run_makeMap _ _
  have hmeth := below_method
  have hmeth2 := sameHead_method
  go_enter Try.func30, Try.ntmps30
  go_wp2_with fail
  go_loopw [6] (fun v wr => ∃ n, SameInv w x y v wr n) (fun v wr => least (SameInv w x y v wr))
  case atStart =>
    refine ⟨_, [(x, y)], [], [], Loop.start ⟨hx, hy⟩, ?_, ?_, ?_, ?_, rfl⟩
    · intro p hp
      rcases hp with hp | hp
      · cases hp
      · rw [List.mem_singleton] at hp; subst hp; exact ⟨hgx, hgy⟩
    · have h := World.ownsRow_lit (base := w.heap.size) (e := 86) (size := 10) (((w.alloc (.cells #[.int .i64 x.k, .string x.t, .int .i64 x.m, .int .i64 x.e, .slice x.a x.F.len x.c] 32)).alloc (.cells #[.int .i64 y.k, .string y.t, .int .i64 y.m, .int .i64 y.e, .slice y.a y.F.len y.c] 32)).alloc (.map #[] 0)) #[.int .i64 x.k, .string x.t, .int .i64 x.m, .int .i64 x.e, .slice x.a x.F.len x.c, .int .i64 y.k, .string y.t, .int .i64 y.m, .int .i64 y.e, .slice y.a y.F.len y.c] 1 (by simp; omega) (by unfold maxLen; omega) rfl
      have e : (((w.alloc (.cells #[.int .i64 x.k, .string x.t, .int .i64 x.m, .int .i64 x.e, .slice x.a x.F.len x.c] 32)).alloc (.cells #[.int .i64 y.k, .string y.t, .int .i64 y.m, .int .i64 y.e, .slice y.a y.F.len y.c] 32)).alloc (.map #[] 0)).heap.size = w.heap.size + 1 + 1 + 1 := by simp
      rw [e] at h
      exact h
    · have e : ((w.alloc (.cells #[.int .i64 x.k, .string x.t, .int .i64 x.m, .int .i64 x.e, .slice x.a x.F.len x.c] 32)).alloc (.cells #[.int .i64 y.k, .string y.t, .int .i64 y.m, .int .i64 y.e, .slice y.a y.F.len y.c] 32)).heap.size = w.heap.size + 1 + 1 := by simp
      refine pl2Keys.has_new _ _ ((Below.heap_alloc _ _ _ (by simp)).trans ?_)
      rw [← e]
      exact heap_alloc_new _ _
    · exact (by (repeat' (first | assumption | exact Below.refl _ _ | refine Below.alloc ?_ ?_ _ | refine Below.setCell ?_ ?_ _ | refine Below.drew ?_ | refine below_drewN ?_ _)) <;> (first | omega | (simp <;> omega)))
  case round =>
    have hM := least_spec hrel
    have HMu : Hid (∀ v' wr' n', SameInv w x y v' wr' n' → n' < least (SameInv w x y u6 wr) → least (SameInv w x y v' wr') < least (SameInv w x y u6 wr)) := fun v' wr' n' h1 h2 => Nat.lt_of_le_of_lt (least_le h1) h2
    obtain ⟨S, L, D, hL, hgd, hown, hmap, hb, hws⟩ := hM
    have HWs : Hid (wsum S = least (SameInv w x y u6 wr)) := hws
    have HL : Hid (Loop w (x, y) (x.F.size + 1) S L D) := hL
    have HG : Hid (∀ p, p ∈ D ∨ p ∈ S → p.1.Good w ∧ p.2.Good w) := hgd
    clear hL hrel hgd hws
    rcases List.eq_nil_or_concat S with rfl | ⟨S, p, rfl⟩
    · have HR : Hid (same2 (x, y)) := HL.out.done
      rcases hown.2 with ⟨rfl, _⟩ | ⟨g, cap, cur, rfl, _⟩
      · go_wp2_with fail
        go_ret
        exact ⟨⟨true, rfl, fun _ => HR.out, fun _ => rfl⟩, hb⟩
      · go_wp2_with fail
        go_ret
        exact ⟨⟨true, rfl, fun _ => HR.out, fun _ => rfl⟩, hb⟩
    · rw [List.concat_eq_append] at HL HG HWs hown
      rw [List.length_append, List.length_singleton] at hown
      obtain ⟨g, cap, rfl, hg1, hg2⟩ := hown.form (by omega)
      have hpop := row_pop hown
      have q0 : wr.cell? ⟨g, S.length * 10, none⟩ = some (.int .i64 p.1.k) := row_last hown 0 (by omega)
      have q1 : wr.cell? ⟨g, S.length * 10 + 1, none⟩ = some (.string p.1.t) := row_last hown 1 (by omega)
      have q2 : wr.cell? ⟨g, S.length * 10 + 2, none⟩ = some (.int .i64 p.1.m) := row_last hown 2 (by omega)
      have q3 : wr.cell? ⟨g, S.length * 10 + 3, none⟩ = some (.int .i64 p.1.e) := row_last hown 3 (by omega)
      have q4 : wr.cell? ⟨g, S.length * 10 + 4, none⟩ = some (.slice p.1.a p.1.F.len p.1.c) := row_last hown 4 (by omega)
      have q5 : wr.cell? ⟨g, S.length * 10 + 5, none⟩ = some (.int .i64 p.2.k) := row_last hown 5 (by omega)
      have q6 : wr.cell? ⟨g, S.length * 10 + 6, none⟩ = some (.string p.2.t) := row_last hown 6 (by omega)
      have q7 : wr.cell? ⟨g, S.length * 10 + 7, none⟩ = some (.int .i64 p.2.m) := row_last hown 7 (by omega)
      have q8 : wr.cell? ⟨g, S.length * 10 + 8, none⟩ = some (.int .i64 p.2.e) := row_last hown 8 (by omega)
      have q9 : wr.cell? ⟨g, S.length * 10 + 9, none⟩ = some (.slice p.2.a p.2.F.len p.2.c) := row_last hown 9 (by omega)
      have hlen : S.length ≤ 1100000 := by
        have h1 := HL.out.room
        have h2 := wsum_length (S ++ [p])
        rw [List.length_append, List.length_singleton] at h2
        omega
      have hcap : (S.length : Int) ≤ (cap : Int) ∧ cap ≤ maxLen := by
        rcases hown.2 with ⟨h', _⟩ | ⟨g', cap', cur, h', h2, h3, h4, h5, h6, h7⟩
        · cases h'
        · simp only [Value.slice.injEq, Option.some.injEq, Addr.mk.injEq, and_true, true_and] at h'
          obtain ⟨rfl, rfl⟩ := h'
          exact ⟨by omega, h5⟩
      obtain ⟨hcap1, hcap2⟩ := hcap
      unfold maxLen at hcap2
      clear hown
      have HN : ∀ (n : Nat), S.length = n → True := fun _ _ => trivial
      clear HN
      obtain ⟨n, hn⟩ : ∃ n, S.length = n := ⟨_, rfl⟩
      have HSn : Hid (S.length = n) := hn
      rw [hn] at HMu HWs q0 q1 q2 q3 q4 q5 q6 q7 q8 q9 hlen hcap1 hpop ⊢
      clear hn
      have hn1 : (0 : Int) < (n : Int) + 1 := by omega
      obtain ⟨⟨xk, xt, xm, xe, xa, xF, xc⟩, yk, yt, ym, ye, ya, yF, yc⟩ := p
      dsimp only at q0 q1 q2 q3 q4 q5 q6 q7 q8 q9
      have hB0 := hb.alloc hb.size (.cells #[.int .i64 xk, .string xt, .int .i64 xm, .int .i64 xe, .slice xa xF.len xc, .int .i64 yk, .string yt, .int .i64 ym, .int .i64 ye, .slice ya yF.len yc] 86)
      go_wp2_with fail
      refine (sameHead_any xk xt xm xe xa xF.len xc yk yt ym ye ya yF.len yc _).mono ?_
      rintro r w1 ⟨rfl, hb1⟩
      have hB1 := hB0.trans (hb1.mono hB0.size)
      have hpl : wr.heap.size < w1.heap.size := by have := hb1.size; simp at this; omega
      have hbx : (wr.alloc (.cells #[.int .i64 xk, .string xt, .int .i64 xm, .int .i64 xe, .slice xa xF.len xc, .int .i64 yk, .string yt, .int .i64 ym, .int .i64 ye, .slice ya yF.len yc] 86)).heap.size = wr.heap.size + 1 := by simp
      have b0 : w1.cell? ⟨wr.heap.size, 0, none⟩ = some (.int .i64 xk) := (hb1.cell (p := ⟨wr.heap.size, 0, none⟩) (by simp)).trans (by simp)
      have b1 : w1.cell? ⟨wr.heap.size, 1, none⟩ = some (.string xt) := (hb1.cell (p := ⟨wr.heap.size, 1, none⟩) (by simp)).trans (by simp)
      have b2 : w1.cell? ⟨wr.heap.size, 2, none⟩ = some (.int .i64 xm) := (hb1.cell (p := ⟨wr.heap.size, 2, none⟩) (by simp)).trans (by simp)
      have b3 : w1.cell? ⟨wr.heap.size, 3, none⟩ = some (.int .i64 xe) := (hb1.cell (p := ⟨wr.heap.size, 3, none⟩) (by simp)).trans (by simp)
      have b4 : w1.cell? ⟨wr.heap.size, 4, none⟩ = some (.slice xa xF.len xc) := (hb1.cell (p := ⟨wr.heap.size, 4, none⟩) (by simp)).trans (by simp)
      have b5 : w1.cell? ⟨wr.heap.size, 5, none⟩ = some (.int .i64 yk) := (hb1.cell (p := ⟨wr.heap.size, 5, none⟩) (by simp)).trans (by simp)
      have b6 : w1.cell? ⟨wr.heap.size, 6, none⟩ = some (.string yt) := (hb1.cell (p := ⟨wr.heap.size, 6, none⟩) (by simp)).trans (by simp)
      have b7 : w1.cell? ⟨wr.heap.size, 7, none⟩ = some (.int .i64 ym) := (hb1.cell (p := ⟨wr.heap.size, 7, none⟩) (by simp)).trans (by simp)
      have b8 : w1.cell? ⟨wr.heap.size, 8, none⟩ = some (.int .i64 ye) := (hb1.cell (p := ⟨wr.heap.size, 8, none⟩) (by simp)).trans (by simp)
      have b9 : w1.cell? ⟨wr.heap.size, 9, none⟩ = some (.slice ya yF.len yc) := (hb1.cell (p := ⟨wr.heap.size, 9, none⟩) (by simp)).trans (by simp)
      have hmlt : w.heap.size + 1 + 1 < wr.heap.size := by obtain ⟨es, clock, h, _⟩ := hmap; exact (Array.getElem?_eq_some_iff.1 h).1
      have hbox := (Below.refl wr.heap.size wr).alloc (Nat.le_refl _) (.cells #[.int .i64 xk, .string xt, .int .i64 xm, .int .i64 xe, .slice xa xF.len xc, .int .i64 yk, .string yt, .int .i64 ym, .int .i64 ye, .slice ya yF.len yc] 86)
      have hw1 : Below wr.heap.size wr w1 := hbox.trans (hb1.mono (by simp))
      have HM : Hid (∀ W, Below w1.heap.size w1 W → pl2Keys.Has W (w.heap.size + 1 + 1) L ∧ W.ownsRow w.heap.size 86 10 (.slice (some ⟨g, 0, none⟩) n cap) n (S.flatMap pcells) ∧ Below w.heap.size w W) := fun W h => by
        have hW := hw1.trans (h.mono hw1.size)
        exact ⟨hmap.same _ (hW.block _ hmlt), hpop.kept (row := none) ⟨hW.os, hW.tape, hW.output, hW.size, fun k hk _ => hW.block k hk⟩ (.inr (fun e => by cases e)), hb.trans (hW.mono hb.size)⟩
      clear q0 q1 q2 q3 q4 q5 q6 q7 q8 q9 hb1 hbx hbox hw1 hpop hmap hB0
      have hxs : xF.size ≤ 1100000 := by
        have h1 := HL.out.room
        rw [wsum_append] at h1
        have h2 : wsum [((⟨xk, xt, xm, xe, xa, xF, xc⟩, ⟨yk, yt, ym, ye, ya, yF, yc⟩) : It2)] = xF.size + 1 + 0 := rfl
        omega
      have hxl : xF.len ≤ 2000000 := by have := xF.len_le; omega
      clear hxs
      have HLie : Hid (xF.In w xa ∧ yF.In w ya) := HL.out.lie (⟨xk, xt, xm, xe, xa, xF, xc⟩, ⟨yk, yt, ym, ye, ya, yF, yc⟩) (.inr (by simp))
      generalize hhs : headSame xk xt xm xe xF.len yk yt ym ye yF.len = hsm
      cases hsm
      · have HR : Hid (¬ same2 (x, y)) := HL.out.fails (p := (⟨xk, xt, xm, xe, xa, xF, xc⟩, ⟨yk, yt, ym, ye, ya, yF, yc⟩)) hhs
        go_wp2_with fail
        go_ret
        exact ⟨⟨false, rfl, fun h => (by cases h), fun h => absurd h HR.out⟩, hB1⟩
      · have HYN : Hid (yF.len = xF.len) := ((hsame_iff (⟨xk, xt, xm, xe, xa, xF, xc⟩, ⟨yk, yt, ym, ye, ya, yF, yc⟩)).1 hhs).2.symm
        have HHS : Hid (hsame (⟨xk, xt, xm, xe, xa, xF, xc⟩, ⟨yk, yt, ym, ye, ya, yF, yc⟩) = true) := hhs
        clear hhs
        have hyl : yF.len ≤ 2000000 := by rw [HYN.out]; exact hxl
        have hT1 : Ten wr.heap.size xk xt xm xe (.slice xa xF.len xc) yk yt ym ye (.slice ya yF.len yc) w1 := ⟨⟨b0, b1, b2, b3, b4⟩, b5, b6, b7, b8, b9⟩
        clear b0 b1 b2 b3 b4 b5 b6 b7 b8 b9
        go_wp2_with fail
        refine sa8 hT1 (len_or HLie.out.1) (len_or HLie.out.2) hxl hyl (fun _ d _ _ _ h => by cases d <;> exact h) ?_
        intro WE B v35 v36 v37 v38 v39 v40 v41 v42 v43 v44 v45 hWE hBge hFC
        obtain ⟨hmE, hrE, hbE⟩ := HM.out _ hWE
        have hgp := HG.out (⟨xk, xt, xm, xe, xa, xF, xc⟩, ⟨yk, yt, ym, ye, ya, yF, yc⟩) (.inr (by simp))
        obtain ⟨n0, hg0, hn0, hcase⟩ := HL.out.count (plOf xa xF.len, plOf ya yF.len)
        have hTE := hT1.same (hWE.block _ hpl)
        have hBmb : B ≠ w.heap.size + 1 + 1 := by omega
        go_wp2_with fail
        refine sa9 (K := (plOf xa xF.len, plOf ya yF.len)) hmE ⟨hgp.1.1.below hbE, hgp.2.1.below hbE⟩ (HL.out.keysOk HG.out hbE) hg0 (by omega) hFC hBmb (fun _ d _ _ _ h => by cases d <;> exact h) ?_
        intro ws v46 v47 v48 v49 v50 v51 hmS hgr hszs
        have hgne := row_ne_map hrE hmE
        have hrS := hrE.kept hgr (.inr (fun e => hgne (Option.some.inj e)))
        have hTS := hTE.same (hgr.block wr.heap.size (Nat.lt_of_lt_of_le hpl hWE.size) (fun e => by have := Option.some.inj e; omega))
        have hFS := FourC.grown hgr (fun e => hBmb (Option.some.inj e)) hFC
        have hbS : Below w.heap.size w ws := hbE.grown hgr hbE.size (fun k hk => by have := Option.some.inj hk; omega)
        have hz : (zeroValue 3).run Try.prog ws = .ok (.int .i64 0) ws := by kernel_rfl
        have hoks : ∀ q ∈ putL (plOf xa xF.len, plOf ya yF.len) (.int .i64 ((n0 : Int) + 1)) L, pl2Keys.ok ws q.1 := fun q hq => by
          rcases putL_keys _ _ L q hq with e | hq
          · rw [e]; exact ⟨hgp.1.1.below hbS, hgp.2.1.below hbS⟩
          · exact HL.out.keysOk HG.out hbS q hq
        have hlook0 := pl2Keys.look (mty := 84) (et := 3) Try.underlying84 (plOf xa xF.len, plOf ya yF.len) ⟨hgp.1.1.below hbS, hgp.2.1.below hbS⟩ hoks hmS.is hz
        rw [getL_put, if_pos rfl] at hlook0
        have hlook : (Instr.lookup 84 (.map (some (w.heap.size + 1 + 1))) (.agg #[.pointer (plOf xa xF.len).1, .int .i64 (plOf xa xF.len).2, .pointer (plOf ya yF.len).1, .int .i64 (plOf ya yF.len).2]) false).run Try.prog ws = .ok (.int .i64 ((n0 : Int) + 1)) ws := hlook0
        have HTS : Hid (Ten wr.heap.size xk xt xm xe (.slice xa xF.len xc) yk yt ym ye (.slice ya xF.len yc) ws) := by rw [HYN.out] at hTS; exact hTS
        have HMS : Hid (pl2Keys.Has ws (w.heap.size + 1 + 1) (putL (plOf xa xF.len, plOf ya yF.len) (.int .i64 ((n0 : Int) + 1)) L)) := hmS
        have HRS : Hid (ws.ownsRow w.heap.size 86 10 (.slice (some ⟨g, 0, none⟩) n cap) n (S.flatMap pcells)) := hrS
        have hgpb : g ≠ wr.heap.size := by omega
        obtain ⟨f0, f1, f2, f3⟩ := hFS
        clear hlook0 hoks hz hgp hmE hrE hbE hTE hT1 hFC hgr hszs hmS hrS hTS hg0
        rcases hcase with rfl | ⟨hn01, hcase⟩
        · have hlook' : (Instr.lookup 84 (.map (some (w.heap.size + 1 + 1))) (.agg #[.pointer (plOf xa xF.len).1, .int .i64 (plOf xa xF.len).2, .pointer (plOf ya yF.len).1, .int .i64 (plOf ya yF.len).2]) false).run Try.prog ws = .ok (.int .i64 1) ws := hlook
          clear hlook
          go_wp2_with fail
          refine sa11 (base := w.heap.size) (n := n) (N := xF.len) (xs := S.flatMap pcells) HTS.out (HLie.out.1.grow hbS) (HLie.out.2.grow hbS) rfl HYN.out hxl (by omega) HRS.out hbS.size (fun e => hgpb (Option.some.inj e).symm) (fun _ d _ _ _ h => by cases d <;> exact h) ?_
          intro w6 v6 v56 v57 v58 v59 v60 v61 v62 v63 v64 v65 v66 hr6 hgr6
          have hb6 : Below w.heap.size w w6 := hbS.grown hgr6 hbS.size (fun k hk => by have : g = k := Option.some.inj hk; omega)
          have hm6 := HMS.out.same _ (hgr6.block (w.heap.size + 1 + 1) (by obtain ⟨es, clock, h, _⟩ := HMS.out; exact (Array.getElem?_eq_some_iff.1 h).1) (fun e => hgne (Option.some.inj e).symm))
          have hinv : SameInv w x y v6 w6 (wsum (S ++ kidPairs xF yF xF.len)) := ⟨S ++ kidPairs xF yF xF.len, _, _, HL.out.new (p := (⟨xk, xt, xm, xe, xa, xF, xc⟩, ⟨yk, yt, ym, ye, ya, yF, yc⟩)) HHS.out, good_new (p := (⟨xk, xt, xm, xe, xa, xF, xc⟩, ⟨yk, yt, ym, ye, ya, yF, yc⟩)) HHS.out HG.out, by rw [List.length_append, kidPairs_length, HSn.out, List.flatMap_append, kidPairs_cells]; exact hr6, hm6, hb6, rfl⟩
          have HInv : Hid (SameInv w x y v6 w6 (wsum (S ++ kidPairs xF yF xF.len))) := hinv
          clear hinv hr6 hgr6 hm6
          go_wp2_with fail
          go_round
          case rel => exact ⟨_, HInv.out⟩
          case measure =>
            refine HMu.out _ _ _ HInv.out ?_
            rw [← HWs.out, wsum_append, wsum_append, wsum_kids, upTo_len]
            show wsum S + xF.size < wsum S + (xF.size + 1 + 0)
            omega
        · have hgd : ((n0 : Int) + 1 == 1) = false := by simp; omega
          have hinv : SameInv w x y (.slice (some ⟨g, 0, none⟩) n cap) ws (wsum S) := ⟨S, _, _, HL.out.old (p := (⟨xk, xt, xm, xe, xa, xF, xc⟩, ⟨yk, yt, ym, ye, ya, yF, yc⟩)) HHS.out hcase, good_old HG.out, by rw [HSn.out]; exact HRS.out, HMS.out, hbS, rfl⟩
          have HInv : Hid (SameInv w x y (.slice (some ⟨g, 0, none⟩) n cap) ws (wsum S)) := hinv
          clear hinv
          go_wp2_with fail
          go_round
          case rel => exact ⟨_, HInv.out⟩
          case measure =>
            refine HMu.out _ _ _ HInv.out ?_
            rw [← HWs.out, wsum_append]
            show wsum S < wsum S + (xF.size + 1 + 0)
            omega
end Go.Proofs.Ytdedccgebeidjaa
