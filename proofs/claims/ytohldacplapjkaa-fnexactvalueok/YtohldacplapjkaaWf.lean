/- Two values that are the same, by the program: the loop walked. -/
import Derived.Test.YtohldacplapjkaaWj
namespace Go.Proofs.Ytohldacplapjkaa
open Go.RowKit
theorem row_ne_mapV {w : World} {base size g n cap mb : Nat} {e : TypeId} {xs : List Value} {L : List (Pl2 × Value)} (h : w.ownsRow base e size (.slice (some ⟨g, 0, none⟩) n cap) n xs) (hm : pl2KeysV.Has w mb L) : g ≠ mb := by
  intro e'
  obtain ⟨es, clock, hh, _⟩ := hm
  rcases h.2 with ⟨h', _⟩ | ⟨g', cap', cur, h', _, hg, _⟩
  · cases h'
  · simp only [Value.slice.injEq, Option.some.injEq, Addr.mk.injEq, and_true, true_and] at h'
    obtain ⟨rfl, rfl⟩ := h'
    rw [e', hh] at hg
    cases hg
set_option maxRecDepth 100000 in
set_option maxHeartbeats 2000000 in
theorem sameAllV_any (x y : ItV) (w : World) (hx : x.F.In w x.a) (hy : y.F.In w y.a) (hs : x.F.size ≤ 1100000) (hgx : x.Good w) (hgy : y.Good w) (hhx : x.h.In w) (hhy : y.h.In w) :
    Calls Try.prog 27 #[valV x.h x.a x.F.len x.c, valV y.h y.a y.F.len y.c] w fun r w' => SaysT (same2V (x, y)) r ∧ Below w.heap.size w w' := by
  have hmm : ∀ W, (Instr.makeMap 60 none).run Try.prog W = .ok (.map (some W.heap.size)) (W.alloc (.map #[] 0)) := fun W => run_makeMap _ _
  have hmeth := belowV_method
  have hmeth2 := sameHeadV_method
  go_enter Try.func27, Try.ntmps27
  go_wp2_with fail
  go_loopw [6] (fun v wr => ∃ n, SameInvV w x y v wr n) (fun v wr => least (SameInvV w x y v wr))
  case atStart =>
    refine ⟨_, [(x, y)], [], [], LoopV.start ⟨hx, hy⟩ ⟨hhx, hhy⟩, ?_, ?_, ?_, ?_, rfl⟩
    · intro p hp
      rcases hp with hp | hp
      · cases hp
      · rw [List.mem_singleton] at hp; subst hp; exact ⟨hgx, hgy⟩
    · have h := World.ownsRow_lit (base := w.heap.size) (e := 62) (size := 12) (((w.alloc (.cells #[.int .i64 x.h.k, .int .i64 x.h.m, .int .i64 x.h.e, .string x.h.t, .slice x.a x.F.len x.c, .slice x.h.na x.h.ns.length x.h.nc] 33)).alloc (.cells #[.int .i64 y.h.k, .int .i64 y.h.m, .int .i64 y.h.e, .string y.h.t, .slice y.a y.F.len y.c, .slice y.h.na y.h.ns.length y.h.nc] 33)).alloc (.map #[] 0)) #[.int .i64 x.h.k, .int .i64 x.h.m, .int .i64 x.h.e, .string x.h.t, .slice x.a x.F.len x.c, .slice x.h.na x.h.ns.length x.h.nc, .int .i64 y.h.k, .int .i64 y.h.m, .int .i64 y.h.e, .string y.h.t, .slice y.a y.F.len y.c, .slice y.h.na y.h.ns.length y.h.nc] 1 (by simp; omega) (by unfold maxLen; omega) rfl
      have e : (((w.alloc (.cells #[.int .i64 x.h.k, .int .i64 x.h.m, .int .i64 x.h.e, .string x.h.t, .slice x.a x.F.len x.c, .slice x.h.na x.h.ns.length x.h.nc] 33)).alloc (.cells #[.int .i64 y.h.k, .int .i64 y.h.m, .int .i64 y.h.e, .string y.h.t, .slice y.a y.F.len y.c, .slice y.h.na y.h.ns.length y.h.nc] 33)).alloc (.map #[] 0)).heap.size = w.heap.size + 1 + 1 + 1 := by simp
      rw [e] at h
      exact h
    · have e : ((w.alloc (.cells #[.int .i64 x.h.k, .int .i64 x.h.m, .int .i64 x.h.e, .string x.h.t, .slice x.a x.F.len x.c, .slice x.h.na x.h.ns.length x.h.nc] 33)).alloc (.cells #[.int .i64 y.h.k, .int .i64 y.h.m, .int .i64 y.h.e, .string y.h.t, .slice y.a y.F.len y.c, .slice y.h.na y.h.ns.length y.h.nc] 33)).heap.size = w.heap.size + 1 + 1 := by simp
      refine pl2KeysV.has_new _ _ ((Below.heap_alloc _ _ _ (by simp)).trans ?_)
      rw [← e]
      exact heap_alloc_new _ _
    · exact (by (repeat' (first | assumption | exact Below.refl _ _ | refine Below.alloc ?_ ?_ _ | refine Below.setCell ?_ ?_ _ | refine Below.drew ?_ | refine below_drewN ?_ _)) <;> (first | omega | (simp <;> omega)))
  case round =>
    have hM := least_spec hrel
    have HMu : Hid (∀ v' wr' n', SameInvV w x y v' wr' n' → n' < least (SameInvV w x y u6 wr) → least (SameInvV w x y v' wr') < least (SameInvV w x y u6 wr)) := fun v' wr' n' h1 h2 => Nat.lt_of_le_of_lt (least_le h1) h2
    obtain ⟨S, L, D, hL, hgd, hown, hmap, hb, hws⟩ := hM
    have HWs : Hid (wsumV S = least (SameInvV w x y u6 wr)) := hws
    have HL : Hid (LoopV w (x, y) (x.F.size + 1) S L D) := hL
    have HG : Hid (∀ p, p ∈ D ∨ p ∈ S → p.1.Good w ∧ p.2.Good w) := hgd
    clear hL hrel hgd hws
    rcases List.eq_nil_or_concat S with rfl | ⟨S, p, rfl⟩
    · have HR : Hid (same2V (x, y)) := HL.out.done
      rcases hown.2 with ⟨rfl, _⟩ | ⟨g, cap, cur, rfl, _⟩
      · go_wp2_with fail
        go_ret
        exact ⟨⟨true, rfl, fun _ => HR.out, fun _ => rfl⟩, hb⟩
      · go_wp2_with fail
        go_ret
        exact ⟨⟨true, rfl, fun _ => HR.out, fun _ => rfl⟩, hb⟩
    · rw [List.concat_eq_append] at HL HG HWs hown
      rw [List.length_append, List.length_singleton] at hown
      obtain ⟨g, cap, rfl, hg1, hg2⟩ := hown.form (by omega)
      have hpop := row_popV hown
      have q0 : wr.cell? ⟨g, S.length * 12, none⟩ = some (.int .i64 p.1.h.k) := row_lastV hown 0 (by omega)
      have q1 : wr.cell? ⟨g, S.length * 12 + 1, none⟩ = some (.int .i64 p.1.h.m) := row_lastV hown 1 (by omega)
      have q2 : wr.cell? ⟨g, S.length * 12 + 2, none⟩ = some (.int .i64 p.1.h.e) := row_lastV hown 2 (by omega)
      have q3 : wr.cell? ⟨g, S.length * 12 + 3, none⟩ = some (.string p.1.h.t) := row_lastV hown 3 (by omega)
      have q4 : wr.cell? ⟨g, S.length * 12 + 4, none⟩ = some (.slice p.1.a p.1.F.len p.1.c) := row_lastV hown 4 (by omega)
      have q5 : wr.cell? ⟨g, S.length * 12 + 5, none⟩ = some (.slice p.1.h.na p.1.h.ns.length p.1.h.nc) := row_lastV hown 5 (by omega)
      have q6 : wr.cell? ⟨g, S.length * 12 + 6, none⟩ = some (.int .i64 p.2.h.k) := row_lastV hown 6 (by omega)
      have q7 : wr.cell? ⟨g, S.length * 12 + 7, none⟩ = some (.int .i64 p.2.h.m) := row_lastV hown 7 (by omega)
      have q8 : wr.cell? ⟨g, S.length * 12 + 8, none⟩ = some (.int .i64 p.2.h.e) := row_lastV hown 8 (by omega)
      have q9 : wr.cell? ⟨g, S.length * 12 + 9, none⟩ = some (.string p.2.h.t) := row_lastV hown 9 (by omega)
      have q10 : wr.cell? ⟨g, S.length * 12 + 10, none⟩ = some (.slice p.2.a p.2.F.len p.2.c) := row_lastV hown 10 (by omega)
      have q11 : wr.cell? ⟨g, S.length * 12 + 11, none⟩ = some (.slice p.2.h.na p.2.h.ns.length p.2.h.nc) := row_lastV hown 11 (by omega)
      have hlen : S.length ≤ 1100000 := by
        have h1 := HL.out.room
        have h2 := wsum_lengthV (S ++ [p])
        rw [List.length_append, List.length_singleton] at h2
        omega
      have hcap : (S.length : Int) ≤ (cap : Int) ∧ cap ≤ maxLen := by
        rcases hown.2 with ⟨h', _⟩ | ⟨g', cap', cur, h', h2, h3, h4, h5, h6, h7⟩
        · cases h'
        · simp only [Value.slice.injEq, Option.some.injEq, Addr.mk.injEq, and_true, true_and] at h'
          obtain ⟨rfl, rfl⟩ := h'
          exact ⟨by omega, h5⟩
      obtain ⟨hcap1, hcap2⟩ := hcap
      unfold maxLen at hcap2
      clear hown
      have HN : ∀ (n : Nat), S.length = n → True := fun _ _ => trivial
      clear HN
      obtain ⟨n, hn⟩ : ∃ n, S.length = n := ⟨_, rfl⟩
      have HSn : Hid (S.length = n) := hn
      rw [hn] at HMu HWs q0 q1 q2 q3 q4 q5 q6 q7 q8 q9 q10 q11 hlen hcap1 hpop ⊢
      clear hn
      have hn1 : (0 : Int) < (n : Int) + 1 := by omega
      obtain ⟨⟨xh, xa, xF, xc⟩, yh, ya, yF, yc⟩ := p
      dsimp only at q0 q1 q2 q3 q4 q5 q6 q7 q8 q9 q10 q11
      have hB0 := hb.alloc hb.size (.cells #[.int .i64 xh.k, .int .i64 xh.m, .int .i64 xh.e, .string xh.t, .slice xa xF.len xc, .slice xh.na xh.ns.length xh.nc, .int .i64 yh.k, .int .i64 yh.m, .int .i64 yh.e, .string yh.t, .slice ya yF.len yc, .slice yh.na yh.ns.length yh.nc] 62)
      have HHd : Hid (∀ W, Below w.heap.size w W → xh.In W ∧ yh.In W) := fun W h => by
        have hq := HL.out.hdin (⟨xh, xa, xF, xc⟩, ⟨yh, ya, yF, yc⟩) (.inr (by simp))
        exact ⟨hq.1.grow h, hq.2.grow h⟩
      go_wp2_with fail
      refine (sameHeadV_any xh yh xa ya xF.len xc yF.len yc _ (HHd.out _ hB0).1 (HHd.out _ hB0).2).mono ?_
      rintro r w1 ⟨rfl, hb1⟩
      have hB1 := hB0.trans (hb1.mono hB0.size)
      have hpl : wr.heap.size < w1.heap.size := by have := hb1.size; simp at this; omega
      have hbx : (wr.alloc (.cells #[.int .i64 xh.k, .int .i64 xh.m, .int .i64 xh.e, .string xh.t, .slice xa xF.len xc, .slice xh.na xh.ns.length xh.nc, .int .i64 yh.k, .int .i64 yh.m, .int .i64 yh.e, .string yh.t, .slice ya yF.len yc, .slice yh.na yh.ns.length yh.nc] 62)).heap.size = wr.heap.size + 1 := by simp
      have b0 : w1.cell? ⟨wr.heap.size, 0, none⟩ = some (.int .i64 xh.k) := (hb1.cell (p := ⟨wr.heap.size, 0, none⟩) (by simp)).trans (by simp)
      have b1 : w1.cell? ⟨wr.heap.size, 1, none⟩ = some (.int .i64 xh.m) := (hb1.cell (p := ⟨wr.heap.size, 1, none⟩) (by simp)).trans (by simp)
      have b2 : w1.cell? ⟨wr.heap.size, 2, none⟩ = some (.int .i64 xh.e) := (hb1.cell (p := ⟨wr.heap.size, 2, none⟩) (by simp)).trans (by simp)
      have b3 : w1.cell? ⟨wr.heap.size, 3, none⟩ = some (.string xh.t) := (hb1.cell (p := ⟨wr.heap.size, 3, none⟩) (by simp)).trans (by simp)
      have b4 : w1.cell? ⟨wr.heap.size, 4, none⟩ = some (.slice xa xF.len xc) := (hb1.cell (p := ⟨wr.heap.size, 4, none⟩) (by simp)).trans (by simp)
      have b5 : w1.cell? ⟨wr.heap.size, 5, none⟩ = some (.slice xh.na xh.ns.length xh.nc) := (hb1.cell (p := ⟨wr.heap.size, 5, none⟩) (by simp)).trans (by simp)
      have b6 : w1.cell? ⟨wr.heap.size, 6, none⟩ = some (.int .i64 yh.k) := (hb1.cell (p := ⟨wr.heap.size, 6, none⟩) (by simp)).trans (by simp)
      have b7 : w1.cell? ⟨wr.heap.size, 7, none⟩ = some (.int .i64 yh.m) := (hb1.cell (p := ⟨wr.heap.size, 7, none⟩) (by simp)).trans (by simp)
      have b8 : w1.cell? ⟨wr.heap.size, 8, none⟩ = some (.int .i64 yh.e) := (hb1.cell (p := ⟨wr.heap.size, 8, none⟩) (by simp)).trans (by simp)
      have b9 : w1.cell? ⟨wr.heap.size, 9, none⟩ = some (.string yh.t) := (hb1.cell (p := ⟨wr.heap.size, 9, none⟩) (by simp)).trans (by simp)
      have b10 : w1.cell? ⟨wr.heap.size, 10, none⟩ = some (.slice ya yF.len yc) := (hb1.cell (p := ⟨wr.heap.size, 10, none⟩) (by simp)).trans (by simp)
      have b11 : w1.cell? ⟨wr.heap.size, 11, none⟩ = some (.slice yh.na yh.ns.length yh.nc) := (hb1.cell (p := ⟨wr.heap.size, 11, none⟩) (by simp)).trans (by simp)
      have hmlt : w.heap.size + 1 + 1 < wr.heap.size := by obtain ⟨es, clock, h, _⟩ := hmap; exact (Array.getElem?_eq_some_iff.1 h).1
      have hbox := (Below.refl wr.heap.size wr).alloc (Nat.le_refl _) (.cells #[.int .i64 xh.k, .int .i64 xh.m, .int .i64 xh.e, .string xh.t, .slice xa xF.len xc, .slice xh.na xh.ns.length xh.nc, .int .i64 yh.k, .int .i64 yh.m, .int .i64 yh.e, .string yh.t, .slice ya yF.len yc, .slice yh.na yh.ns.length yh.nc] 62)
      have hw1 : Below wr.heap.size wr w1 := hbox.trans (hb1.mono (by simp))
      have HM : Hid (∀ W, Below w1.heap.size w1 W → pl2KeysV.Has W (w.heap.size + 1 + 1) L ∧ W.ownsRow w.heap.size 62 12 (.slice (some ⟨g, 0, none⟩) n cap) n (S.flatMap pcellsV) ∧ Below w.heap.size w W) := fun W h => by
        have hW := hw1.trans (h.mono hw1.size)
        exact ⟨hmap.same _ (hW.block _ hmlt), hpop.kept (row := none) ⟨hW.os, hW.tape, hW.output, hW.size, fun k hk _ => hW.block k hk⟩ (.inr (fun e => by cases e)), hb.trans (hW.mono hb.size)⟩
      clear q0 q1 q2 q3 q4 q5 q6 q7 q8 q9 q10 q11 hb1 hbx hbox hw1 hpop hmap hB0
      have hxs : xF.size ≤ 1100000 := by
        have h1 := HL.out.room
        rw [wsum_appendV] at h1
        have h2 : wsumV [((⟨xh, xa, xF, xc⟩, ⟨yh, ya, yF, yc⟩) : It2V)] = xF.size + 1 + 0 := rfl
        omega
      have hxl : xF.len ≤ 2000000 := by have := xF.len_le; omega
      clear hxs
      have HLie : Hid (xF.In w xa ∧ yF.In w ya) := HL.out.lie (⟨xh, xa, xF, xc⟩, ⟨yh, ya, yF, yc⟩) (.inr (by simp))
      generalize hhs : headSameV xh xF.len yh yF.len = hsm
      cases hsm
      · have HR : Hid (¬ same2V (x, y)) := HL.out.fails (p := (⟨xh, xa, xF, xc⟩, ⟨yh, ya, yF, yc⟩)) hhs
        go_wp2_with fail
        go_ret
        exact ⟨⟨false, rfl, fun h => (by cases h), fun h => absurd h HR.out⟩, hB1⟩
      · have HYN : Hid (yF.len = xF.len) := ((hsame_iffV (⟨xh, xa, xF, xc⟩, ⟨yh, ya, yF, yc⟩)).1 hhs).2.symm
        have HHS : Hid (hsameV (⟨xh, xa, xF, xc⟩, ⟨yh, ya, yF, yc⟩) = true) := hhs
        clear hhs
        have hyl : yF.len ≤ 2000000 := by rw [HYN.out]; exact hxl
        have hT1 : TwoV wr.heap.size xh (.slice xa xF.len xc) yh (.slice ya yF.len yc) w1 := ⟨⟨b0, b1, b2, b3, b4, b5⟩, b6, b7, b8, b9, b10, b11⟩
        clear b0 b1 b2 b3 b4 b5 b6 b7 b8 b9 b10 b11
        go_wp2_with fail
        refine sa8V hT1 (len_orV HLie.out.1) (len_orV HLie.out.2) hxl hyl (fun _ d _ _ _ h => by cases d <;> exact h) ?_
        intro WE B v35 v36 v37 v38 v39 v40 v41 v42 v43 v44 v45 hWE hBge hFC
        obtain ⟨hmE, hrE, hbE⟩ := HM.out _ hWE
        have hgp := HG.out (⟨xh, xa, xF, xc⟩, ⟨yh, ya, yF, yc⟩) (.inr (by simp))
        obtain ⟨n0, hg0, hn0, hcase⟩ := HL.out.count (plOf xa xF.len, plOf ya yF.len)
        have hTE := hT1.same (hWE.block _ hpl)
        have hBmb : B ≠ w.heap.size + 1 + 1 := by omega
        go_wp2_with fail
        refine sa9V (K := (plOf xa xF.len, plOf ya yF.len)) hmE ⟨hgp.1.1.below hbE, hgp.2.1.below hbE⟩ (HL.out.keysOk HG.out hbE) hg0 (by omega) hFC hBmb (fun _ d _ _ _ h => by cases d <;> exact h) ?_
        intro ws v46 v47 v48 v49 v50 v51 hmS hgr hszs
        have hgne := row_ne_mapV hrE hmE
        have hrS := hrE.kept hgr (.inr (fun e => hgne (Option.some.inj e)))
        have hTS := hTE.same (hgr.block wr.heap.size (Nat.lt_of_lt_of_le hpl hWE.size) (fun e => by have := Option.some.inj e; omega))
        have hFS := FourC.grown hgr (fun e => hBmb (Option.some.inj e)) hFC
        have hbS : Below w.heap.size w ws := hbE.grown hgr hbE.size (fun k hk => by have := Option.some.inj hk; omega)
        have hz : (zeroValue 3).run Try.prog ws = .ok (.int .i64 0) ws := by kernel_rfl
        have hoks : ∀ q ∈ putL (plOf xa xF.len, plOf ya yF.len) (.int .i64 ((n0 : Int) + 1)) L, pl2KeysV.ok ws q.1 := fun q hq => by
          rcases putL_keys _ _ L q hq with e | hq
          · rw [e]; exact ⟨hgp.1.1.below hbS, hgp.2.1.below hbS⟩
          · exact HL.out.keysOk HG.out hbS q hq
        have hlook0 := pl2KeysV.look (mty := 60) (et := 3) Try.underlying60 (plOf xa xF.len, plOf ya yF.len) ⟨hgp.1.1.below hbS, hgp.2.1.below hbS⟩ hoks hmS.is hz
        rw [getL_put, if_pos rfl] at hlook0
        have hlook : (Instr.lookup 60 (.map (some (w.heap.size + 1 + 1))) (.agg #[.pointer (plOf xa xF.len).1, .int .i64 (plOf xa xF.len).2, .pointer (plOf ya yF.len).1, .int .i64 (plOf ya yF.len).2]) false).run Try.prog ws = .ok (.int .i64 ((n0 : Int) + 1)) ws := hlook0
        have HTS : Hid (TwoV wr.heap.size xh (.slice xa xF.len xc) yh (.slice ya xF.len yc) ws) := by rw [HYN.out] at hTS; exact hTS
        have HMS : Hid (pl2KeysV.Has ws (w.heap.size + 1 + 1) (putL (plOf xa xF.len, plOf ya yF.len) (.int .i64 ((n0 : Int) + 1)) L)) := hmS
        have HRS : Hid (ws.ownsRow w.heap.size 62 12 (.slice (some ⟨g, 0, none⟩) n cap) n (S.flatMap pcellsV)) := hrS
        have hgpb : g ≠ wr.heap.size := by omega
        obtain ⟨f0, f1, f2, f3⟩ := hFS
        clear hlook0 hoks hz hgp hmE hrE hbE hTE hT1 hFC hgr hszs hmS hrS hTS hg0
        rcases hcase with rfl | ⟨hn01, hcase⟩
        · have hlook' : (Instr.lookup 60 (.map (some (w.heap.size + 1 + 1))) (.agg #[.pointer (plOf xa xF.len).1, .int .i64 (plOf xa xF.len).2, .pointer (plOf ya yF.len).1, .int .i64 (plOf ya yF.len).2]) false).run Try.prog ws = .ok (.int .i64 1) ws := hlook
          clear hlook
          go_wp2_with fail
          refine sa11V (base := w.heap.size) (n := n) (N := xF.len) (xs := S.flatMap pcellsV) HTS.out (HLie.out.1.grow hbS) (HLie.out.2.grow hbS) rfl HYN.out hxl (by omega) HRS.out hbS.size (fun e => hgpb (Option.some.inj e).symm) (fun _ d _ _ _ h => by cases d <;> exact h) ?_
          intro w6 v6 v56 v57 v58 v59 v60 v61 v62 v63 v64 v65 v66 hr6 hgr6
          have hb6 : Below w.heap.size w w6 := hbS.grown hgr6 hbS.size (fun k hk => by have : g = k := Option.some.inj hk; omega)
          have hm6 := HMS.out.same _ (hgr6.block (w.heap.size + 1 + 1) (by obtain ⟨es, clock, h, _⟩ := HMS.out; exact (Array.getElem?_eq_some_iff.1 h).1) (fun e => hgne (Option.some.inj e).symm))
          have hinv : SameInvV w x y v6 w6 (wsumV (S ++ kidPairsV xF yF xF.len)) := ⟨S ++ kidPairsV xF yF xF.len, _, _, HL.out.new (p := (⟨xh, xa, xF, xc⟩, ⟨yh, ya, yF, yc⟩)) HHS.out, good_newV (p := (⟨xh, xa, xF, xc⟩, ⟨yh, ya, yF, yc⟩)) HHS.out HG.out, by rw [List.length_append, kidPairs_lengthV, HSn.out, List.flatMap_append, kidPairs_cellsV]; exact hr6, hm6, hb6, rfl⟩
          have HInv : Hid (SameInvV w x y v6 w6 (wsumV (S ++ kidPairsV xF yF xF.len))) := hinv
          clear hinv hr6 hgr6 hm6
          go_wp2_with fail
          go_round
          case rel => exact ⟨_, HInv.out⟩
          case measure =>
            refine HMu.out _ _ _ HInv.out ?_
            rw [← HWs.out, wsum_appendV, wsum_appendV, wsum_kidsV, upTo_lenV]
            show wsumV S + xF.size < wsumV S + (xF.size + 1 + 0)
            omega
        · have hgd : ((n0 : Int) + 1 == 1) = false := by simp; omega
          have hinv : SameInvV w x y (.slice (some ⟨g, 0, none⟩) n cap) ws (wsumV S) := ⟨S, _, _, HL.out.old (p := (⟨xh, xa, xF, xc⟩, ⟨yh, ya, yF, yc⟩)) HHS.out hcase, good_oldV HG.out, by rw [HSn.out]; exact HRS.out, HMS.out, hbS, rfl⟩
          have HInv : Hid (SameInvV w x y (.slice (some ⟨g, 0, none⟩) n cap) ws (wsumV S)) := hinv
          clear hinv
          go_wp2_with fail
          go_round
          case rel => exact ⟨_, HInv.out⟩
          case measure =>
            refine HMu.out _ _ _ HInv.out ?_
            rw [← HWs.out, wsum_appendV]
            show wsumV S < wsumV S + (xF.size + 1 + 0)
            omega
end Go.Proofs.Ytohldacplapjkaa
