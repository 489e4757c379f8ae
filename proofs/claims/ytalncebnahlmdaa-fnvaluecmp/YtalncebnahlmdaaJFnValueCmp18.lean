/- My own texts, joined: Ce Cf LFnValueCmp. -/
import Derived.Test.YtalncebnahlmdaaJFnValueCmp17
import Derived.Test.YtalncebnahlmdaaJFnValueCmp5
import Derived.Test.YtalncebnahlmdaaJFnValueCmp15
/- How two values stand to each other, by the specification: l13Cmp, ValueCmp. -/
namespace Go.Proofs.Ytalncebnahlmdaa
open Go.RowKit
def hd_in (h g : Hd) (w : World) : Prop := h.In w ∧ g.In w
set_option maxRecDepth 100000 in
set_option maxHeartbeats 2000000 in
theorem l13Cmp_step (N : Nat) (H : OrdC 37 N) : OrdC 37 (N + 1) := by
  intro h a c F g a2 c2 G w hF hin hl hc hh hin2 hl2 hc2 hg hf hf2
  unfold maxLen at hc hc2
  go_enter Try.func37, Try.ntmps37
  obtain ⟨wp, hwp⟩ : ∃ wp, wp = (w.alloc (.cells #[.int .i64 h.k, .int .i64 h.m, .int .i64 h.e, .string h.t, .slice a F.len c, .slice h.na h.ns.length h.nc] 28)).alloc (.cells #[.int .i64 g.k, .int .i64 g.m, .int .i64 g.e, .string g.t, .slice a2 G.len c2, .slice g.na g.ns.length g.nc] 28) := ⟨_, rfl⟩
  have hBp : Below w.heap.size w wp := by subst hwp; exact ((Below.refl _ w).alloc (Nat.le_refl _) _).alloc (by simp) _
  have hA : BxV w.heap.size h (.slice a F.len c) wp := by subst hwp; exact (BxV.new w h _ _).below ((Below.refl _ _).alloc (Nat.le_refl _) _)
  have hB : BxV (w.heap.size + 1) g (.slice a2 G.len c2) wp := by
    subst hwp
    have h9 := BxV.new (w.alloc (.cells #[.int .i64 h.k, .int .i64 h.m, .int .i64 h.e, .string h.t, .slice a F.len c, .slice h.na h.ns.length h.nc] 28)) g (.slice a2 G.len c2) 28
    rw [World.size_alloc] at h9
    exact h9
  have hX1 : Hid (∀ W, Below wp.heap.size wp W → BxV w.heap.size h (.slice a F.len c) W ∧ BxV (w.heap.size + 1) g (.slice a2 G.len c2) W) := fun W hW => ⟨hA.below hW, hB.below hW⟩
  have hwp' := hwp
  clear hwp hA hB
  have HW := hideIt hwp'
  clear hwp'
  by_cases hk : h.k = g.k
  case neg =>
    have e : (h.k != g.k) = true := by simpa using hk
    have HR : Hid (vord (N + 1) h F g G = Dm.sgn (h.k - g.k)) := by
      have e1 : hord h g = Dm.sgn (h.k - g.k) := if_neg hk
      have e2 : ¬ hord h g = 0 := by rw [e1]; intro x; have := (Dm.sgn_iff (h.k - g.k)).2.2.1 x; omega
      unfold Hid; rw [← e1]; exact if_neg e2
    have hr := one_kind hf.1
    have hr2 := one_kind hf2.1
    have hwr : IntKind.i64.wrap (h.k - g.k) = h.k - g.k := by rw [IntKind.wrap_i64]; omega
    clear hin hin2 hh hg H hf hf2 hX1 hk
    go_wp2_with fail
    rw [← HW.out]
    refine (l1Sign_any _ _).mono ?_
    rintro r w2 ⟨rfl, hw2⟩
    subst w2
    clear HW
    go_wp2_with fail
    go_ret
    exact ⟨by rw [HR.out]; rfl, hBp⟩
  have e : (h.k != g.k) = false := by rw [hk]; simp
  have HKk := hideIt hk
  clear hk
  by_cases hm1 : h.m = g.m
  case neg =>
    have hm : ¬ (h.m = g.m ∧ h.e = g.e) := fun x => hm1 x.1
    have HR : Hid (vord (N + 1) h F g G = Dm.cmp h.m h.e g.m g.e) := by
      have e1 : hord h g = Dm.cmp h.m h.e g.m g.e := by unfold hord; rw [if_pos HKk.out, if_neg hm]
      have e2 : ¬ hord h g = 0 := by rw [e1]; intro x; exact hm ((Dm.cmp_zero (one_dec hf.1) (one_dec hf2.1)).1 x)
      unfold Hid; rw [← e1]; exact if_neg e2
    have ho := hideIt (one_dec hf.1)
    have ho2 := hideIt (one_dec hf2.1)
    clear hin hin2 hh hg H hf hf2 hX1 hm HKk
    go_wp2_with fail
    rw [← HW.out]
    refine (l1Cmp_any _ _ _ _ _ ho.out ho2.out).mono ?_
    rintro r w2 ⟨rfl, hb2⟩
    have hB2 := hBp.trans (hb2.mono hBp.size)
    clear HW hb2
    go_wp2_with fail
    go_ret
    exact ⟨by rw [HR.out]; rfl, hB2⟩
  by_cases hm2 : h.e = g.e
  case neg =>
    have hm : ¬ (h.m = g.m ∧ h.e = g.e) := fun x => hm2 x.2
    have HR : Hid (vord (N + 1) h F g G = Dm.cmp h.m h.e g.m g.e) := by
      have e1 : hord h g = Dm.cmp h.m h.e g.m g.e := by unfold hord; rw [if_pos HKk.out, if_neg hm]
      have e2 : ¬ hord h g = 0 := by rw [e1]; intro x; exact hm ((Dm.cmp_zero (one_dec hf.1) (one_dec hf2.1)).1 x)
      unfold Hid; rw [← e1]; exact if_neg e2
    have ho : Hid (Dm.ok g.m h.e = true) := by have q := one_dec hf.1; rw [hm1] at q; exact q
    have ho2 := hideIt (one_dec hf2.1)
    rw [hm1] at HR
    have HW0 := HW.out
    rw [hm1] at HW0
    clear HW
    have HW := hideIt HW0
    clear HW0
    clear hin hin2 hh hg H hf hf2 hX1 hm HKk
    go_wp2_with fail
    rw [← HW.out]
    refine (l1Cmp_any _ _ _ _ _ ho.out ho2.out).mono ?_
    rintro r w2 ⟨rfl, hb2⟩
    have hB2 := hBp.trans (hb2.mono hBp.size)
    clear HW hb2
    go_wp2_with fail
    go_ret
    exact ⟨by rw [HR.out]; rfl, hB2⟩
  have hm := And.intro hm1 hm2
  clear hm1 hm2
  have e1a := hm.1
  have e1b := hm.2
  have HM0 := hideIt hm
  have HW0 := HW.out
  rw [hm.1, hm.2] at HW0
  have HW2 := hideIt HW0
  clear hm HW HW0
  by_cases ht : h.t = g.t
  case neg =>
    have e2 : (h.t.toList == g.t.toList) = false := by simpa using fun x => ht (text_ext x)
    have HR : Hid (vord (N + 1) h F g G = tord h.t g.t) := by
      have e1 : hord h g = tord h.t g.t := by unfold hord; rw [if_pos HKk.out, if_pos HM0.out]
      have e2 : ¬ hord h g = 0 := by rw [e1]; intro x; exact ht (tord_zero.1 x)
      unfold Hid; rw [← e1]; exact if_neg e2
    clear hin hin2 hh hg H hf hf2 hX1 ht HKk HM0
    go_wp2_with fail
    rw [← HW2.out]
    refine (l8Texts_any _ _ _).mono ?_
    rintro r w2 ⟨rfl, hw2⟩
    subst w2
    clear HW2
    go_wp2_with fail
    go_ret
    exact ⟨by rw [HR.out]; rfl, hBp⟩
  have e2 : (h.t.toList == g.t.toList) = true := by rw [ht]; simp
  have hz : hord h g = 0 := by unfold hord; rw [if_pos HKk.out, if_pos HM0.out]; exact tord_zero.2 ht
  obtain ⟨M, hM⟩ : ∃ M, min F.len G.len = M := ⟨_, rfl⟩
  have HR : Hid (vord (N + 1) h F g G = ford (vord N) (h.k == 6) h.ns g.ns F G M 0) := by unfold Hid; rw [← hM]; exact if_pos hz
  have hMF : M ≤ F.len := by omega
  have hMG : M ≤ G.len := by omega
  have hMc : M = F.len ∨ M = G.len := by omega
  have HMi : Hid ((M ≤ F.len ∧ M ≤ G.len) ∧ (M = F.len ∨ M = G.len)) := ⟨⟨hMF, hMG⟩, hMc⟩
  have HBp := hideIt hBp
  have HIn : Hid ((∀ W, Below wp.heap.size wp W → F.In W a ∧ G.In W a2) ∧ hd_in h g w) := ⟨fun W hW => ⟨hin.grow (hBp.trans (hW.mono hBp.size)), hin2.grow (hBp.trans (hW.mono hBp.size))⟩, hh, hg⟩
  have HFit := hideIt (And.intro hf hf2)
  clear hin hin2 hh hg hf hf2 hz hM hBp ht hMF hMG hMc
  go_wp2_with fail
  rw [← HW2.out]
  clear HW2
  go_loopw [5] (fun i wr => ∃ j : Nat, i = .int .i64 j ∧ j ≤ M ∧ ford (vord N) (h.k == 6) h.ns g.ns F G (M - j) j = ford (vord N) (h.k == 6) h.ns g.ns F G M 0 ∧ Below wp.heap.size wp wr) (fun i _ => M - (intOf i).toNat)
  case atStart => exact ⟨0, rfl, Nat.zero_le _, rfl, Below.refl _ _⟩
  case round =>
    obtain ⟨j, rfl, hj, hfo, hb⟩ := hrel
    have HF := hideIt hfo
    clear hfo
    obtain ⟨⟨x0, x1, x2, x3, x4, x5⟩, y0, y1, y2, y3, y4, y5⟩ := hX1.out _ hb
    by_cases hjM : j < M
    case neg =>
      have ej : j = M := by omega
      have HL : Hid (Dm.sgn ((F.len : Int) - (G.len : Int)) = ford (vord N) (h.k == 6) h.ns g.ns F G (M - j) j) := by unfold Hid; rw [show M - j = 0 by omega]; rfl
      have hwr : IntKind.i64.wrap ((F.len : Int) - (G.len : Int)) = (F.len : Int) - (G.len : Int) := by rw [IntKind.wrap_i64]; omega
      by_cases hjF : j < F.len
      · have h1 : (j : Int) < (F.len : Int) := by omega
        have h2 : ¬ (j : Int) < (G.len : Int) := by have := HMi.out; omega
        clear ej hjM
        go_wp2_with fail
        refine (l1Sign_any _ _).mono ?_
        rintro r w2 ⟨rfl, hw2⟩
        subst w2
        go_wp2_with fail
        go_ret
        exact ⟨by rw [HR.out, ← HF.out, ← HL.out]; rfl, HBp.out.trans (hb.mono HBp.out.size)⟩
      · have h1 : ¬ (j : Int) < (F.len : Int) := by omega
        clear ej hjM
        go_wp2_with fail
        refine (l1Sign_any _ _).mono ?_
        rintro r w2 ⟨rfl, hw2⟩
        subst w2
        go_wp2_with fail
        go_ret
        exact ⟨by rw [HR.out, ← HF.out, ← HL.out]; rfl, HBp.out.trans (hb.mono HBp.out.size)⟩
    have hjF : j < F.len := by have := HMi.out; omega
    have hjG : j < G.len := by have := HMi.out; omega
    have hjl : (j : Int) < (F.len : Int) := by omega
    have hjl2 : (j : Int) < (G.len : Int) := by omega
    obtain ⟨b, o, rfl, hFr⟩ := Vo.from_of_len (HIn.out.1 _ (Below.refl _ _)).1 hjF
    obtain ⟨b2, o2, rfl, hGr⟩ := Vo.from_of_len (HIn.out.1 _ (Below.refl _ _)).2 hjG
    have HC : Hid (∀ W', Below wp.heap.size wp W' → Cells6 W' b (o + j * 6) (F.hdAt j) (.slice (F.addrAt j) (F.kidsAt j).len (F.capAt j)) ∧ Cells6 W' b2 (o2 + j * 6) (G.hdAt j) (.slice (G.addrAt j) (G.kidsAt j).len (G.capAt j))) := fun W' hW => ⟨(Vo.from_at (Vo.from_grow hW F b o hFr) hjF).1, (Vo.from_at (Vo.from_grow hW G b2 o2 hGr) hjG).1⟩
    have HK : Hid (∀ W', Below wp.heap.size wp W' → Calls Try.prog 37 #[valV (F.hdAt j) (F.addrAt j) (F.kidsAt j).len (F.capAt j), valV (G.hdAt j) (G.addrAt j) (G.kidsAt j).len (G.capAt j)] W' fun r w' => r = .returned (.int .i64 (vord N (F.hdAt j) (F.kidsAt j) (G.hdAt j) (G.kidsAt j))) ∧ Below W'.heap.size W' w') := fun W' hW => by
      obtain ⟨_, x2, ⟨x3, x4⟩, x5⟩ := Vo.from_at (Vo.from_grow hW F b o hFr) hjF
      obtain ⟨_, y2, ⟨y3, y4⟩, y5⟩ := Vo.from_at (Vo.from_grow hW G b2 o2 hGr) hjG
      have hs := Vo.size_at hjF
      exact H _ _ _ _ _ _ _ _ W' (by omega) x2 x3 x4 x5 y2 y3 y4 y5 (fit_at HFit.out.1 hjF) (fit_at HFit.out.2 hjG)
    have HN := hideIt (@ford_next (vord N) (h.k == 6) h.ns g.ns F G M j hjM)
    have HN2 := hideIt (@ford_here (vord N) (h.k == 6) h.ns g.ns F G M j hjM)
    clear hFr hGr H
    by_cases hob : h.k = 6
    case pos =>
      obtain ⟨nb, no, q1, q2, q3⟩ := names_at HIn.out.2.1 (HBp.out.trans (hb.mono HBp.out.size)) HFit.out.1.1 hob hjF
      obtain ⟨mb, mo, q4, q5, q6⟩ := names_at HIn.out.2.2 (HBp.out.trans (hb.mono HBp.out.size)) HFit.out.2.1 (HKk.out.symm.trans hob) hjG
      have hob' : (h.k == 6) = true := by rw [hob]; rfl
      by_cases hne : nmAt h.ns j = nmAt g.ns j
      · have HPe : Hid (pord (vord N) (h.k == 6) h.ns g.ns F G j = vord N (F.hdAt j) (F.kidsAt j) (G.hdAt j) (G.kidsAt j)) := if_neg (fun x => x.2 hne)
        have hq : ((nmAt h.ns j).toList != (nmAt g.ns j).toList) = false := by rw [hne]; simp
        have HQ := hideIt (And.intro hob (And.intro q1 q4))
        have HQ6 := hideIt (And.intro q3 q6)
        clear hob hob' hne q1 q4 q3 q6
        go_wp2_with fail
        refine lc10 (hX1.out _ hb).1 (hX1.out _ hb).2 HQ.out.1 HQ.out.2.1 HQ.out.2.2 q2 q5 HQ6.out.1 HQ6.out.2 hq (fun _ d _ _ _ h => by cases d <;> exact h) ?_
        intro w1 v52 v53 v54 v55 v56 v57 v58 v59 v60 v61 v62 v63 v64 v65 v66 hb1
        clear HQ HQ6 hq q2 q5
        clear x0 x1 x2 x3 x4 x5 y0 y1 y2 y3 y4 y5
        have hbb1 := hb.trans (hb1.mono hb.size)
        go_wp2_with fail
        refine lc12 (hX1.out _ hbb1).1 (hX1.out _ hbb1).2 hjl hjl2 (HC.out _ hbb1).1 (HC.out _ hbb1).2 (fun W' hW => HK.out W' (hbb1.trans (hW.mono hbb1.size))) (fun _ d _ _ _ h => by cases d <;> exact h) ?_
        intro w2 v79 v80 v81 v82 v83 v84 v85 v86 v87 v88 v89 hb2
        have hbb2 := hbb1.trans (hb2.mono hbb1.size)
        rw [HPe.out] at HN HN2
        generalize vord N (F.hdAt j) (F.kidsAt j) (G.hdAt j) (G.kidsAt j) = P at HN HN2 ⊢
        clear HC HK hb1 hb2 hbb1 HPe
        by_cases hp : P = 0
        · have e : (P != 0) = false := by rw [hp]; rfl
          have HP := hideIt hp
          clear hp
          go_wp2_with fail
          go_round
          case rel => exact ⟨j + 1, by go_num, by omega, by rw [HN.out HP.out]; exact HF.out, hbb2⟩
          case measure => simp [intOf]; omega
        · have e : (P != 0) = true := by simpa using hp
          go_wp2_with fail
          go_ret
          exact ⟨by rw [HR.out, ← HF.out, ← HN2.out hp]; rfl, HBp.out.trans (hbb2.mono HBp.out.size)⟩
      · have HPe : Hid (pord (vord N) (h.k == 6) h.ns g.ns F G j = tord (nmAt h.ns j) (nmAt g.ns j)) := if_pos ⟨hob', hne⟩
        have hne0 : ¬ tord (nmAt h.ns j) (nmAt g.ns j) = 0 := fun x => hne (tord_zero.1 x)
        have HNe := hideIt hne0
        have hq : ((nmAt h.ns j).toList != (nmAt g.ns j).toList) = true := by
          simp only [bne_iff_ne, ne_eq]
          exact fun x => hne (text_ext x)
        have HQ := hideIt (And.intro hob (And.intro q1 q4))
        have HQ6 := hideIt (And.intro q3 q6)
        clear hob hob' hne q1 q4 q3 q6 hne0
        go_wp2_with fail
        refine lc10 (hX1.out _ hb).1 (hX1.out _ hb).2 HQ.out.1 HQ.out.2.1 HQ.out.2.2 q2 q5 HQ6.out.1 HQ6.out.2 hq (fun _ d _ _ _ h => by cases d <;> exact h) ?_
        intro w1 v52 v53 v54 v55 v56 v57 v58 v59 v60 v61 v62 v63 v64 v65 v66 hb1
        have hbb1 := hb.trans (hb1.mono hb.size)
        have f3 := (hb1.cell (p := ⟨nb, no + j, none⟩) (World.block_lt_of_cell? _ _ HQ6.out.1)).trans HQ6.out.1
        have f6 := (hb1.cell (p := ⟨mb, mo + j, none⟩) (World.block_lt_of_cell? _ _ HQ6.out.2)).trans HQ6.out.2
        have HQ7 := hideIt (And.intro f3 f6)
        clear hq HQ6 f3 f6 HC HK
        clear x0 x1 x2 x3 x4 x5 y0 y1 y2 y3 y4 y5
        go_wp2_with fail
        refine lc11 (hX1.out _ hbb1).1 (hX1.out _ hbb1).2 HQ.out.2.1 HQ.out.2.2 q2 q5 HQ7.out.1 HQ7.out.2 (fun _ d _ _ _ h => by cases d <;> exact h) ?_
        intro w2 v68 v69 v70 v71 v72 v73 v74 v75 v76 v77 v78 hb2
        have hbb2 := hbb1.trans (hb2.mono hbb1.size)
        clear HQ HQ7 hb1 hb2 hbb1
        go_wp2_with fail
        go_ret
        exact ⟨by rw [HR.out, ← HF.out, ← HN2.out (by rw [HPe.out]; exact HNe.out), HPe.out]; rfl, HBp.out.trans (hbb2.mono HBp.out.size)⟩
    case neg =>
      have hob' : (h.k == 6) = false := by simpa using hob
      have HPe : Hid (pord (vord N) (h.k == 6) h.ns g.ns F G j = vord N (F.hdAt j) (F.kidsAt j) (G.hdAt j) (G.kidsAt j)) := if_neg (fun x => by rw [hob'] at x; cases x.1)
      clear hob
      have HOb := hideIt hob'
      clear hob'
      go_wp2_with fail
      refine lc10n (B := w.heap.size + 1) (hX1.out _ hb).1 HOb.out (fun _ d _ _ _ h => by cases d <;> exact h) ?_
      intro w1 v52 v53 v54 v55 v56 v57 v58 v59 v60 v61 v62 v63 v64 v65 v66 hb1
      clear HOb
      clear x0 x1 x2 x3 x4 x5 y0 y1 y2 y3 y4 y5
      have hbb1 := hb.trans (hb1.mono hb.size)
      go_wp2_with fail
      refine lc12 (hX1.out _ hbb1).1 (hX1.out _ hbb1).2 hjl hjl2 (HC.out _ hbb1).1 (HC.out _ hbb1).2 (fun W' hW => HK.out W' (hbb1.trans (hW.mono hbb1.size))) (fun _ d _ _ _ h => by cases d <;> exact h) ?_
      intro w2 v79 v80 v81 v82 v83 v84 v85 v86 v87 v88 v89 hb2
      have hbb2 := hbb1.trans (hb2.mono hbb1.size)
      rw [HPe.out] at HN HN2
      generalize vord N (F.hdAt j) (F.kidsAt j) (G.hdAt j) (G.kidsAt j) = P at HN HN2 ⊢
      clear HC HK hb1 hb2 hbb1 HPe
      by_cases hp : P = 0
      · have e : (P != 0) = false := by rw [hp]; rfl
        have HP := hideIt hp
        clear hp
        go_wp2_with fail
        go_round
        case rel => exact ⟨j + 1, by go_num, by omega, by rw [HN.out HP.out]; exact HF.out, hbb2⟩
        case measure => simp [intOf]; omega
      · have e : (P != 0) = true := by simpa using hp
        go_wp2_with fail
        go_ret
        exact ⟨by rw [HR.out, ← HF.out, ← HN2.out hp]; rfl, HBp.out.trans (hbb2.mono HBp.out.size)⟩
theorem l13Cmp_all (N : Nat) : OrdC 37 N := by
  induction N with
  | zero => intro h a c F g a2 c2 G w hF; omega
  | succ N ih => exact l13Cmp_step N ih
end Go.Proofs.Ytalncebnahlmdaa
/- How two values stand to each other: ValueCmp, of the program and of the specification. -/
namespace Go.Proofs.Ytalncebnahlmdaa
open Go.RowKit
set_option maxRecDepth 100000 in
set_option maxHeartbeats 1000000 in
theorem sValueCmp_any (h : Hd) (a : Option Addr) (c : Nat) (F : Vo) (g : Hd) (a2 : Option Addr) (c2 : Nat) (G : Vo) (w : World) (hF : F.size ≤ 1048576) (hG : G.size ≤ 1048576) (hin : F.In w a) (hl : F.len ≤ c) (hc : c ≤ maxLen) (hh : h.In w) (hin2 : G.In w a2) (hl2 : G.len ≤ c2) (hc2 : c2 ≤ maxLen) (hg : g.In w) :
    Calls Try.prog 18 #[valV h a F.len c, valV g a2 G.len c2] w fun r w' => r = .returned (.int .i64 (vcmp h F g G)) ∧ Below w.heap.size w w' := by
  obtain ⟨wp, hwp⟩ : ∃ wp, wp = (w.alloc (.cells #[.int .i64 h.k, .int .i64 h.m, .int .i64 h.e, .string h.t, .slice a F.len c, .slice h.na h.ns.length h.nc] 28)).alloc (.cells #[.int .i64 g.k, .int .i64 g.m, .int .i64 g.e, .string g.t, .slice a2 G.len c2, .slice g.na g.ns.length g.nc] 28) := ⟨_, rfl⟩
  have hBp : Below w.heap.size w wp := by subst hwp; exact ((Below.refl _ w).alloc (Nat.le_refl _) _).alloc (by simp) _
  have hA : BxV w.heap.size h (.slice a F.len c) wp := by subst hwp; exact (BxV.new w h _ _).below ((Below.refl _ _).alloc (Nat.le_refl _) _)
  have hB : BxV (w.heap.size + 1) g (.slice a2 G.len c2) wp := by
    subst hwp
    have h9 := BxV.new (w.alloc (.cells #[.int .i64 h.k, .int .i64 h.m, .int .i64 h.e, .string h.t, .slice a F.len c, .slice h.na h.ns.length h.nc] 28)) g (.slice a2 G.len c2) 28
    rw [World.size_alloc] at h9
    exact h9
  have hX1 : Hid (∀ W, Below wp.heap.size wp W → BxV w.heap.size h (.slice a F.len c) W ∧ BxV (w.heap.size + 1) g (.slice a2 G.len c2) W) := fun W hW => ⟨hA.below hW, hB.below hW⟩
  have HI : Hid (∀ W, Below wp.heap.size wp W → ((F.In W a ∧ h.In W) ∧ G.In W a2 ∧ g.In W) ∧ Below w.heap.size w W) := fun W hW => by
    have hb := hBp.trans (hW.mono hBp.size)
    exact ⟨⟨⟨hin.grow hb, hh.grow hb⟩, hin2.grow hb, hg.grow hb⟩, hb⟩
  have HW := hideIt hwp
  have hB0 := Below.refl wp.heap.size wp
  clear hwp hA hB hin hh hin2 hg hBp
  go_enter Try.func18, Try.ntmps18
  go_wp2_with fail
  rw [← HW.out]
  clear HW
  refine (sValueOk_any h a c F _ (by omega) (HI.out _ hB0).1.1.1 hl hc (HI.out _ hB0).1.1.2).mono ?_
  rintro r w1 ⟨⟨q1, rfl, hq1⟩, hb1⟩
  have HQ1 := hideIt (hq1)
  clear hq1
  obtain ⟨⟨x0, x1, x2, x3, x4, x5⟩, y0, y1, y2, y3, y4, y5⟩ := hX1.out _ hb1
  cases q1
  · have HR : Hid (vcmp h F g G = 0) := vcmp_no (.inl (fun x => by have := HQ1.out.2 x; cases this))
    have hbb := (HI.out _ hb1).2
    go_wp2_with fail
    go_ret
    exact ⟨by rw [HR.out]; rfl, hbb⟩
  · go_wp2_with fail
    refine (sValueOk_any g a2 c2 G _ (by omega) (HI.out _ hb1).1.2.1 hl2 hc2 (HI.out _ hb1).1.2.2).mono ?_
    rintro r w2 ⟨⟨q2, rfl, hq2⟩, hb2⟩
    have HQ2 := hideIt (hq2)
    clear hq2
    have hB2 := hb1.trans (hb2.mono hb1.size)
    clear x0 x1 x2 x3 x4 x5 y0 y1 y2 y3 y4 y5 hb1 hb2 hB0
    obtain ⟨⟨x0, x1, x2, x3, x4, x5⟩, y0, y1, y2, y3, y4, y5⟩ := hX1.out _ hB2
    cases q2
    · have HR : Hid (vcmp h F g G = 0) := vcmp_no (.inr (fun x => by have := HQ2.out.2 x; cases this))
      have hbb := (HI.out _ hB2).2
      go_wp2_with fail
      go_ret
      exact ⟨by rw [HR.out]; rfl, hbb⟩
    · have hv : ValOk h F := by have q := HQ1.out; simpa using q
      have hv2 : ValOk g G := by have q := HQ2.out; simpa using q
      have HR : Hid (vcmp h F g G = vord 200 h F g G) := vcmp_ok hv hv2
      have HV := hideIt (And.intro hv hv2)
      clear hv hv2 HQ1 HQ2
      go_wp2_with fail
      refine (l13Cmp_all 200 h a c F g a2 c2 G _ (by have h9 : F.size + 1 ≤ 200 := HV.out.1.1; omega) (HI.out _ hB2).1.1.1 hl hc (HI.out _ hB2).1.1.2 (HI.out _ hB2).1.2.1 hl2 hc2 (HI.out _ hB2).1.2.2 HV.out.1.2.2 HV.out.2.2.2).mono ?_
      rintro r w3 ⟨rfl, hb3⟩
      have hbb := (HI.out _ (hB2.trans (hb3.mono hB2.size))).2
      clear x0 x1 x2 x3 x4 x5 y0 y1 y2 y3 y4 y5 hb3 hB2
      rw [← HR.out]
      go_wp2_with fail
      go_ret
      exact ⟨rfl, hbb⟩
set_option maxRecDepth 100000 in
set_option maxHeartbeats 1000000 in
theorem iValueCmp_any (h : Hd) (a : Option Addr) (c : Nat) (F : Vo) (g : Hd) (a2 : Option Addr) (c2 : Nat) (G : Vo) (w : World) (hF : F.size ≤ 1048576) (hG : G.size ≤ 1048576) (hin : F.In w a) (hl : F.len ≤ c) (hc : c ≤ maxLen) (hh : h.In w) (hin2 : G.In w a2) (hl2 : G.len ≤ c2) (hc2 : c2 ≤ maxLen) (hg : g.In w) :
    Calls Try.prog 16 #[valV h a F.len c, valV g a2 G.len c2] w fun r w' => r = .returned (.int .i64 (vcmp h F g G)) ∧ Below w.heap.size w w' := by
  obtain ⟨wp, hwp⟩ : ∃ wp, wp = (w.alloc (.cells #[.int .i64 h.k, .int .i64 h.m, .int .i64 h.e, .string h.t, .slice a F.len c, .slice h.na h.ns.length h.nc] 28)).alloc (.cells #[.int .i64 g.k, .int .i64 g.m, .int .i64 g.e, .string g.t, .slice a2 G.len c2, .slice g.na g.ns.length g.nc] 28) := ⟨_, rfl⟩
  have hBp : Below w.heap.size w wp := by subst hwp; exact ((Below.refl _ w).alloc (Nat.le_refl _) _).alloc (by simp) _
  have hA : BxV w.heap.size h (.slice a F.len c) wp := by subst hwp; exact (BxV.new w h _ _).below ((Below.refl _ _).alloc (Nat.le_refl _) _)
  have hB : BxV (w.heap.size + 1) g (.slice a2 G.len c2) wp := by
    subst hwp
    have h9 := BxV.new (w.alloc (.cells #[.int .i64 h.k, .int .i64 h.m, .int .i64 h.e, .string h.t, .slice a F.len c, .slice h.na h.ns.length h.nc] 28)) g (.slice a2 G.len c2) 28
    rw [World.size_alloc] at h9
    exact h9
  have hX1 : Hid (∀ W, Below wp.heap.size wp W → BxV w.heap.size h (.slice a F.len c) W ∧ BxV (w.heap.size + 1) g (.slice a2 G.len c2) W) := fun W hW => ⟨hA.below hW, hB.below hW⟩
  have HI : Hid (∀ W, Below wp.heap.size wp W → ((F.In W a ∧ h.In W) ∧ G.In W a2 ∧ g.In W) ∧ Below w.heap.size w W) := fun W hW => by
    have hb := hBp.trans (hW.mono hBp.size)
    exact ⟨⟨⟨hin.grow hb, hh.grow hb⟩, hin2.grow hb, hg.grow hb⟩, hb⟩
  have HW := hideIt hwp
  have hB0 := Below.refl wp.heap.size wp
  clear hwp hA hB hin hh hin2 hg hBp
  go_enter Try.func16, Try.ntmps16
  go_wp2_with fail
  rw [← HW.out]
  clear HW
  refine (iValueOk_any h a c F _ (by omega) (HI.out _ hB0).1.1.1 hl hc (HI.out _ hB0).1.1.2).mono ?_
  rintro r w1 ⟨⟨q1, rfl, hq1⟩, hb1⟩
  have HQ1 := hideIt (hq1.trans (good_ok _ _))
  clear hq1
  obtain ⟨⟨x0, x1, x2, x3, x4, x5⟩, y0, y1, y2, y3, y4, y5⟩ := hX1.out _ hb1
  cases q1
  · have HR : Hid (vcmp h F g G = 0) := vcmp_no (.inl (fun x => by have := HQ1.out.2 x; cases this))
    have hbb := (HI.out _ hb1).2
    go_wp2_with fail
    go_ret
    exact ⟨by rw [HR.out]; rfl, hbb⟩
  · go_wp2_with fail
    refine (iValueOk_any g a2 c2 G _ (by omega) (HI.out _ hb1).1.2.1 hl2 hc2 (HI.out _ hb1).1.2.2).mono ?_
    rintro r w2 ⟨⟨q2, rfl, hq2⟩, hb2⟩
    have HQ2 := hideIt (hq2.trans (good_ok _ _))
    clear hq2
    have hB2 := hb1.trans (hb2.mono hb1.size)
    clear x0 x1 x2 x3 x4 x5 y0 y1 y2 y3 y4 y5 hb1 hb2 hB0
    obtain ⟨⟨x0, x1, x2, x3, x4, x5⟩, y0, y1, y2, y3, y4, y5⟩ := hX1.out _ hB2
    cases q2
    · have HR : Hid (vcmp h F g G = 0) := vcmp_no (.inr (fun x => by have := HQ2.out.2 x; cases this))
      have hbb := (HI.out _ hB2).2
      go_wp2_with fail
      go_ret
      exact ⟨by rw [HR.out]; rfl, hbb⟩
    · have hv : ValOk h F := by have q := HQ1.out; simpa using q
      have hv2 : ValOk g G := by have q := HQ2.out; simpa using q
      have HR : Hid (vcmp h F g G = vord 200 h F g G) := vcmp_ok hv hv2
      have HV := hideIt (And.intro hv hv2)
      clear hv hv2 HQ1 HQ2
      go_wp2_with fail
      refine (valueOrder_all 200 h a c F g a2 c2 G _ (by have h9 : F.size + 1 ≤ 200 := HV.out.1.1; omega) (HI.out _ hB2).1.1.1 hl hc (HI.out _ hB2).1.1.2 (HI.out _ hB2).1.2.1 hl2 hc2 (HI.out _ hB2).1.2.2 HV.out.1.2.2 HV.out.2.2.2).mono ?_
      rintro r w3 ⟨rfl, hb3⟩
      have hbb := (HI.out _ (hB2.trans (hb3.mono hB2.size))).2
      clear x0 x1 x2 x3 x4 x5 y0 y1 y2 y3 y4 y5 hb3 hB2
      rw [← HR.out]
      go_wp2_with fail
      go_ret
      exact ⟨rfl, hbb⟩
end Go.Proofs.Ytalncebnahlmdaa
/- The law FnValueCmp walked. -/
namespace Go.Proofs.Ytalncebnahlmdaa
open Go.RowKit
attribute [local go_sem] cell_alloc_is frozen_alloc_is
theorem iCmpS {B B' M M' : Nat} {W : World} {h g : Hd} {a a2 : Option Addr} {c c2 : Nat} {F G : Vo} (x : AnyS B M W h a c F) (y : AnyS B' M' W g a2 c2 G) (hM : M ≤ 1000) (hM' : M' ≤ 1000) :
    Calls Try.prog 16 #[valV h a F.len c, valV g a2 G.len c2] W fun r w' => r = .returned (.int .i64 (vcmp h F g G)) ∧ Below W.heap.size W w' := by
  obtain ⟨i1, i2, i3⟩ := Vo.kin_one.1 x.1.1
  obtain ⟨j1, j2, j3⟩ := Vo.kin_one.1 y.1.1
  have := x.2.2.1.1
  have := y.2.2.1.1
  exact iValueCmp_any h a c F g a2 c2 G W (by omega) (by omega) i1 i2.1 i2.2 i3 j1 j2.1 j2.2 j3
theorem sCmpS {B B' M M' : Nat} {W : World} {h g : Hd} {a a2 : Option Addr} {c c2 : Nat} {F G : Vo} (x : AnyS B M W h a c F) (y : AnyS B' M' W g a2 c2 G) (hM : M ≤ 1000) (hM' : M' ≤ 1000) :
    Calls Try.prog 18 #[valV h a F.len c, valV g a2 G.len c2] W fun r w' => r = .returned (.int .i64 (vcmp h F g G)) ∧ Below W.heap.size W w' := by
  obtain ⟨i1, i2, i3⟩ := Vo.kin_one.1 x.1.1
  obtain ⟨j1, j2, j3⟩ := Vo.kin_one.1 y.1.1
  have := x.2.2.1.1
  have := y.2.2.1.1
  exact sValueCmp_any h a c F g a2 c2 G W (by omega) (by omega) i1 i2.1 i2.2 i3 j1 j2.1 j2.2 j3
theorem sOkS {B M : Nat} {W : World} {h : Hd} {a : Option Addr} {c : Nat} {F : Vo} (x : AnyS B M W h a c F) (hM : M ≤ 1000) :
    Calls Try.prog 9 #[valV h a F.len c] W fun r w' => (∃ ok, r = .returned (.bool ok) ∧ (ok = true ↔ ValOk h F)) ∧ Below W.heap.size W w' := by
  obtain ⟨i1, i2, i3⟩ := Vo.kin_one.1 x.1.1
  have := x.2.2.1.1
  exact sValueOk_any h a c F W (by omega) i1 i2.1 i2.2 i3
theorem three {k : Int} (h : -1 ≤ k ∧ k ≤ 1) : k = -1 ∨ k = 0 ∨ k = 1 := by omega
set_option maxRecDepth 100000 in
set_option maxHeartbeats 2000000 in
theorem walk_FnValueCmp (a : Option Addr) (len cap : Nat) (zs : List Int) (a2 : Option Addr) (len2 cap2 : Nat) (zs2 : List Int) (w : World) (hz : IsRow .u8 w a len cap zs) (hz2 : IsRow .u8 w a2 len2 cap2 zs2) :
    Calls Try.prog 5 #[.slice a len cap, .slice a2 len2 cap2] w fun e w' => e = .returned (.bool true) ∧ Below w.heap.size w w' := by
  have hc := codeIn_of hz
  have hcm := codeIn_of hz2
  clear hz hz2
  have hm : cap ≤ maxLen := hc.2.2.1
  have hlc : len ≤ cap := hc.2.1
  have hm2 : cap2 ≤ maxLen := hcm.2.2.1
  have hlc2 : len2 ≤ cap2 := hcm.2.1
  unfold maxLen at hm hm2
  by_cases hlen : len ≤ 1048576
  · by_cases hlen2 : len2 ≤ 1048576
    · go_enter Try.func5, Try.ntmps5
      go_wp2_with fail
      refine (drawValueCmp_any w a len cap hc).mono ?_
      rintro e w1 ⟨⟨hA, FA, aa, ca, hB, FB, ab, cb, rfl, SA, SB⟩, hb1⟩
      have hcm1 := hcm.below hb1
      clear hc hcm
      have hbX : Below w1.heap.size w1 ((w1.alloc (.cells #[.int .i64 hA.k, .int .i64 hA.m, .int .i64 hA.e, .string hA.t, .slice aa FA.len ca, .slice hA.na hA.ns.length hA.nc] 28)).alloc (.cells #[.int .i64 hB.k, .int .i64 hB.m, .int .i64 hB.e, .string hB.t, .slice ab FB.len cb, .slice hB.na hB.ns.length hB.nc] 28)) := by exact (by (repeat' (first | assumption | exact Below.refl _ _ | refine Below.alloc ?_ ?_ _ | refine Below.setCell ?_ ?_ _ | refine Below.drew ?_ | refine below_drewN ?_ _)) <;> (first | omega | (simp <;> omega)))
      have X : Row ((w1.alloc (.cells #[.int .i64 hA.k, .int .i64 hA.m, .int .i64 hA.e, .string hA.t, .slice aa FA.len ca, .slice hA.na hA.ns.length hA.nc] 28)).alloc (.cells #[.int .i64 hB.k, .int .i64 hB.m, .int .i64 hB.e, .string hB.t, .slice ab FB.len cb, .slice hB.na hB.ns.length hB.nc] 28)) w1.heap.size (six hA aa FA.len ca) := (Row.new w1 _ _).below ((Below.refl _ _).alloc (Nat.le_refl _) _) (by simp)
      have Y : Row ((w1.alloc (.cells #[.int .i64 hA.k, .int .i64 hA.m, .int .i64 hA.e, .string hA.t, .slice aa FA.len ca, .slice hA.na hA.ns.length hA.nc] 28)).alloc (.cells #[.int .i64 hB.k, .int .i64 hB.m, .int .i64 hB.e, .string hB.t, .slice ab FB.len cb, .slice hB.na hB.ns.length hB.nc] 28)) (w1.heap.size + 1) (six hB ab FB.len cb) := by
        have := Row.new (w1.alloc (.cells #[.int .i64 hA.k, .int .i64 hA.m, .int .i64 hA.e, .string hA.t, .slice aa FA.len ca, .slice hA.na hA.ns.length hA.nc] 28)) (six hB ab FB.len cb) 28
        rw [World.size_alloc] at this
        exact this
      go_wp2_with fail
      obtain ⟨w2, hw2⟩ : ∃ w2, ((w1.alloc (.cells #[.int .i64 hA.k, .int .i64 hA.m, .int .i64 hA.e, .string hA.t, .slice aa FA.len ca, .slice hA.na hA.ns.length hA.nc] 28)).alloc (.cells #[.int .i64 hB.k, .int .i64 hB.m, .int .i64 hB.e, .string hB.t, .slice ab FB.len cb, .slice hB.na hB.ns.length hB.nc] 28)) = w2 := ⟨_, rfl⟩
      rw [hw2] at hbX X Y ⊢
      clear hw2
      have hcm2 := hcm1.below hbX
      have SA2 := SA.below hbX
      have SB2 := SB.below hbX
      have hB2 := hb1.trans (hbX.mono hb1.size)
      clear hcm1 SA SB hbX hb1
      obtain ⟨va, hva⟩ : ∃ va, w1.heap.size = va := ⟨_, rfl⟩
      rw [hva] at X Y ⊢
      clear hva
      have HX : Hid (∀ W, Below w2.heap.size w2 W → Row W va (six hA aa FA.len ca) ∧ Row W (va + 1) (six hB ab FB.len cb)) := fun W h => ⟨X.below h X.lt, Y.below h Y.lt⟩
      have HS : Hid (∀ W, Below w2.heap.size w2 W → AnyS w.heap.size 1000 W hA aa ca FA ∧ AnyS w.heap.size 1000 W hB ab cb FB) := fun W h => ⟨SA2.below h, SB2.below h⟩
      have HB : Hid (∀ W, Below w2.heap.size w2 W → Below w.heap.size w W) := fun W h => hB2.trans (h.mono hB2.size)
      have HC : Hid (∀ W, Below w2.heap.size w2 W → CodeIn W a2 len2 cap2) := fun W h => hcm2.below h
      have hq := Below.refl w2.heap.size w2
      clear X Y SA2 SB2 hB2 hcm2
      obtain ⟨k, hk⟩ : ∃ k, vcmp hA FA hB FB = k := ⟨_, rfl⟩
      have hkb := three (hk ▸ vcmp_bd hA hB FA FB)
      have hk2 : vcmp hB FB hA FA = -k := by rw [vcmp_swap, hk]
      obtain ⟨hX, hY⟩ := HX.out _ hq
      have x0 := (hX 0 _ rfl).1
      have x1 := (hX 1 _ rfl).1
      have x2 := (hX 2 _ rfl).1
      have x3 := (hX 3 _ rfl).1
      have x4 := (hX 4 _ rfl).1
      have x5 := (hX 5 _ rfl).1
      have y0 := (hY 0 _ rfl).1
      have y1 := (hY 1 _ rfl).1
      have y2 := (hY 2 _ rfl).1
      have y3 := (hY 3 _ rfl).1
      have y4 := (hY 4 _ rfl).1
      have y5 := (hY 5 _ rfl).1
      clear hX hY
      (try go_wp2_with fail)
      refine (iCmpS (HS.out _ hq).1 (HS.out _ hq).2 (Nat.le_refl _) (Nat.le_refl _)).mono ?_
      rintro r w3 ⟨rfl, hb⟩
      have hq' := hq.trans (hb.mono hq.size)
      clear hq hb
      have hq := hq'
      clear hq'
      rw [hk]
      clear x0 y0 x1 y1 x2 y2 x3 y3 x4 y4 x5 y5
      obtain ⟨hX, hY⟩ := HX.out _ hq
      have x0 := (hX 0 _ rfl).1
      have x1 := (hX 1 _ rfl).1
      have x2 := (hX 2 _ rfl).1
      have x3 := (hX 3 _ rfl).1
      have x4 := (hX 4 _ rfl).1
      have x5 := (hX 5 _ rfl).1
      have y0 := (hY 0 _ rfl).1
      have y1 := (hY 1 _ rfl).1
      have y2 := (hY 2 _ rfl).1
      have y3 := (hY 3 _ rfl).1
      have y4 := (hY 4 _ rfl).1
      have y5 := (hY 5 _ rfl).1
      clear hX hY
      go_wp2_with fail
      refine (sCmpS (HS.out _ hq).1 (HS.out _ hq).2 (Nat.le_refl _) (Nat.le_refl _)).mono ?_
      rintro r w4 ⟨rfl, hb⟩
      have hq' := hq.trans (hb.mono hq.size)
      clear hq hb
      have hq := hq'
      clear hq'
      rw [hk]
      clear x0 y0 x1 y1 x2 y2 x3 y3 x4 y4 x5 y5
      obtain ⟨hX, hY⟩ := HX.out _ hq
      have x0 := (hX 0 _ rfl).1
      have x1 := (hX 1 _ rfl).1
      have x2 := (hX 2 _ rfl).1
      have x3 := (hX 3 _ rfl).1
      have x4 := (hX 4 _ rfl).1
      have x5 := (hX 5 _ rfl).1
      have y0 := (hY 0 _ rfl).1
      have y1 := (hY 1 _ rfl).1
      have y2 := (hY 2 _ rfl).1
      have y3 := (hY 3 _ rfl).1
      have y4 := (hY 4 _ rfl).1
      have y5 := (hY 5 _ rfl).1
      clear hX hY
      have HK : Hid (vcmp hA FA hB FB = k) := hk
      clear hk
      rcases hkb with rfl | rfl | rfl
      · rw [show -(-1 : Int) = 1 by decide] at hk2
        go_wp2_with fail
        refine (iCmpS (HS.out _ hq).2 (HS.out _ hq).1 (Nat.le_refl _) (Nat.le_refl _)).mono ?_
        rintro r w5 ⟨rfl, hb⟩
        have hq' := hq.trans (hb.mono hq.size)
        clear hq hb
        have hq := hq'
        clear hq'
        rw [hk2]
        clear hk2
        clear x0 y0 x1 y1 x2 y2 x3 y3 x4 y4 x5 y5
        obtain ⟨hX, hY⟩ := HX.out _ hq
        have x0 := (hX 0 _ rfl).1
        have x1 := (hX 1 _ rfl).1
        have x2 := (hX 2 _ rfl).1
        have x3 := (hX 3 _ rfl).1
        have x4 := (hX 4 _ rfl).1
        have x5 := (hX 5 _ rfl).1
        have y0 := (hY 0 _ rfl).1
        have y1 := (hY 1 _ rfl).1
        have y2 := (hY 2 _ rfl).1
        have y3 := (hY 3 _ rfl).1
        have y4 := (hY 4 _ rfl).1
        have y5 := (hY 5 _ rfl).1
        clear hX hY
        go_wp2_with fail
        have hcw := HC.out _ hq
        refine (drawValueCmp_any w5 a2 len2 cap2 hcw).mono ?_
        rintro e wd ⟨⟨hC, FC, ac, cc, hD, FD, ad, cd, rfl, SC, SD⟩, hb⟩
        have hq' := hq.trans (hb.mono hq.size)
        clear hq hb hcw SD
        have hq := hq'
        clear hq'
        clear x0 y0 x1 y1 x2 y2 x3 y3 x4 y4 x5 y5
        have hbX : Below wd.heap.size wd ((wd.alloc (.cells #[.int .i64 hC.k, .int .i64 hC.m, .int .i64 hC.e, .string hC.t, .slice ac FC.len cc, .slice hC.na hC.ns.length hC.nc] 28)).alloc (.cells #[.int .i64 hD.k, .int .i64 hD.m, .int .i64 hD.e, .string hD.t, .slice ad FD.len cd, .slice hD.na hD.ns.length hD.nc] 28)) := by exact (by (repeat' (first | assumption | exact Below.refl _ _ | refine Below.alloc ?_ ?_ _ | refine Below.setCell ?_ ?_ _ | refine Below.drew ?_ | refine below_drewN ?_ _)) <;> (first | omega | (simp <;> omega)))
        have Z : Row ((wd.alloc (.cells #[.int .i64 hC.k, .int .i64 hC.m, .int .i64 hC.e, .string hC.t, .slice ac FC.len cc, .slice hC.na hC.ns.length hC.nc] 28)).alloc (.cells #[.int .i64 hD.k, .int .i64 hD.m, .int .i64 hD.e, .string hD.t, .slice ad FD.len cd, .slice hD.na hD.ns.length hD.nc] 28)) wd.heap.size (six hC ac FC.len cc) := (Row.new wd _ _).below ((Below.refl _ _).alloc (Nat.le_refl _) _) (by simp)
        have U : Row ((wd.alloc (.cells #[.int .i64 hC.k, .int .i64 hC.m, .int .i64 hC.e, .string hC.t, .slice ac FC.len cc, .slice hC.na hC.ns.length hC.nc] 28)).alloc (.cells #[.int .i64 hD.k, .int .i64 hD.m, .int .i64 hD.e, .string hD.t, .slice ad FD.len cd, .slice hD.na hD.ns.length hD.nc] 28)) (wd.heap.size + 1) (six hD ad FD.len cd) := by
          have := Row.new (wd.alloc (.cells #[.int .i64 hC.k, .int .i64 hC.m, .int .i64 hC.e, .string hC.t, .slice ac FC.len cc, .slice hC.na hC.ns.length hC.nc] 28)) (six hD ad FD.len cd) 28
          rw [World.size_alloc] at this
          exact this
        clear U
        have hqX := hq.trans (hbX.mono hq.size)
        obtain ⟨hX, hY⟩ := HX.out _ hqX
        have x0 := (hX 0 _ rfl).1
        have x1 := (hX 1 _ rfl).1
        have x2 := (hX 2 _ rfl).1
        have x3 := (hX 3 _ rfl).1
        have x4 := (hX 4 _ rfl).1
        have x5 := (hX 5 _ rfl).1
        clear hX hY hqX
        go_wp2_with fail
        clear x0 x1 x2 x3 x4 x5
        obtain ⟨wf, hwf⟩ : ∃ wf, ((wd.alloc (.cells #[.int .i64 hC.k, .int .i64 hC.m, .int .i64 hC.e, .string hC.t, .slice ac FC.len cc, .slice hC.na hC.ns.length hC.nc] 28)).alloc (.cells #[.int .i64 hD.k, .int .i64 hD.m, .int .i64 hD.e, .string hD.t, .slice ad FD.len cd, .slice hD.na hD.ns.length hD.nc] 28)) = wf := ⟨_, rfl⟩
        rw [hwf] at hbX Z ⊢
        clear hwf
        have SC2 := SC.below hbX
        have hq' := hq.trans (hbX.mono hq.size)
        clear hq SC hbX
        have hq := hq'
        clear hq'
        obtain ⟨vc, hvc⟩ : ∃ vc, wd.heap.size = vc := ⟨_, rfl⟩
        rw [hvc] at Z ⊢
        clear hvc
        obtain ⟨B3, HB3⟩ : ∃ B3 : Nat, Hid (∀ W, Below wf.heap.size wf W → Row W vc (six hC ac FC.len cc) ∧ AnyS B3 1000 W hC ac cc FC) := ⟨w5.heap.size, fun W h => ⟨Z.below h Z.lt, SC2.below h⟩⟩
        have HZ := HB3
        clear HB3 Z SC2
        have hp := Below.refl wf.heap.size wf
        obtain ⟨hX, hY⟩ := HX.out _ hq
        have x0 := (hX 0 _ rfl).1
        have x1 := (hX 1 _ rfl).1
        have x2 := (hX 2 _ rfl).1
        have x3 := (hX 3 _ rfl).1
        have x4 := (hX 4 _ rfl).1
        have x5 := (hX 5 _ rfl).1
        have y0 := (hY 0 _ rfl).1
        have y1 := (hY 1 _ rfl).1
        have y2 := (hY 2 _ rfl).1
        have y3 := (hY 3 _ rfl).1
        have y4 := (hY 4 _ rfl).1
        have y5 := (hY 5 _ rfl).1
        clear hX hY
        have hZ := HZ.out _ hp
        have z0 := (hZ.1 0 _ rfl).1
        have z1 := (hZ.1 1 _ rfl).1
        have z2 := (hZ.1 2 _ rfl).1
        have z3 := (hZ.1 3 _ rfl).1
        have z4 := (hZ.1 4 _ rfl).1
        have z5 := (hZ.1 5 _ rfl).1
        clear hZ
        refine (sOkS (HS.out _ hq).1 (Nat.le_refl _)).mono ?_
        rintro r w6 ⟨⟨okA, rfl, hokA⟩, hb⟩
        have hq' := hq.trans (hb.mono hq.size)
        have hp' := hp.trans (hb.mono hp.size)
        clear hp
        have hp := hp'
        clear hp'
        clear hq hb
        have hq := hq'
        clear hq'
        clear x0 y0 x1 y1 x2 y2 x3 y3 x4 y4 x5 y5 z0 z1 z2 z3 z4 z5
        obtain ⟨hX, hY⟩ := HX.out _ hq
        have x0 := (hX 0 _ rfl).1
        have x1 := (hX 1 _ rfl).1
        have x2 := (hX 2 _ rfl).1
        have x3 := (hX 3 _ rfl).1
        have x4 := (hX 4 _ rfl).1
        have x5 := (hX 5 _ rfl).1
        have y0 := (hY 0 _ rfl).1
        have y1 := (hY 1 _ rfl).1
        have y2 := (hY 2 _ rfl).1
        have y3 := (hY 3 _ rfl).1
        have y4 := (hY 4 _ rfl).1
        have y5 := (hY 5 _ rfl).1
        clear hX hY
        have hZ := HZ.out _ hp
        have z0 := (hZ.1 0 _ rfl).1
        have z1 := (hZ.1 1 _ rfl).1
        have z2 := (hZ.1 2 _ rfl).1
        have z3 := (hZ.1 3 _ rfl).1
        have z4 := (hZ.1 4 _ rfl).1
        have z5 := (hZ.1 5 _ rfl).1
        clear hZ
        cases okA
        · go_wp2_with fail
          all_goals
            go_ret
            exact ⟨rfl, HB.out _ hq⟩
        go_wp2_with fail
        refine (sOkS (HS.out _ hq).2 (Nat.le_refl _)).mono ?_
        rintro r w7 ⟨⟨okB, rfl, hokB⟩, hb⟩
        have hq' := hq.trans (hb.mono hq.size)
        have hp' := hp.trans (hb.mono hp.size)
        clear hp
        have hp := hp'
        clear hp'
        clear hq hb
        have hq := hq'
        clear hq'
        clear x0 y0 x1 y1 x2 y2 x3 y3 x4 y4 x5 y5 z0 z1 z2 z3 z4 z5
        obtain ⟨hX, hY⟩ := HX.out _ hq
        have x0 := (hX 0 _ rfl).1
        have x1 := (hX 1 _ rfl).1
        have x2 := (hX 2 _ rfl).1
        have x3 := (hX 3 _ rfl).1
        have x4 := (hX 4 _ rfl).1
        have x5 := (hX 5 _ rfl).1
        have y0 := (hY 0 _ rfl).1
        have y1 := (hY 1 _ rfl).1
        have y2 := (hY 2 _ rfl).1
        have y3 := (hY 3 _ rfl).1
        have y4 := (hY 4 _ rfl).1
        have y5 := (hY 5 _ rfl).1
        clear hX hY
        have hZ := HZ.out _ hp
        have z0 := (hZ.1 0 _ rfl).1
        have z1 := (hZ.1 1 _ rfl).1
        have z2 := (hZ.1 2 _ rfl).1
        have z3 := (hZ.1 3 _ rfl).1
        have z4 := (hZ.1 4 _ rfl).1
        have z5 := (hZ.1 5 _ rfl).1
        clear hZ
        cases okB
        · go_wp2_with fail
          all_goals
            go_ret
            exact ⟨rfl, HB.out _ hq⟩
        go_wp2_with fail
        refine (sOkS (HZ.out _ hp).2 (Nat.le_refl _)).mono ?_
        rintro r w8 ⟨⟨okC, rfl, hokC⟩, hb⟩
        have hq' := hq.trans (hb.mono hq.size)
        have hp' := hp.trans (hb.mono hp.size)
        clear hp
        have hp := hp'
        clear hp'
        clear hq hb
        have hq := hq'
        clear hq'
        clear x0 y0 x1 y1 x2 y2 x3 y3 x4 y4 x5 y5 z0 z1 z2 z3 z4 z5
        obtain ⟨hX, hY⟩ := HX.out _ hq
        have x0 := (hX 0 _ rfl).1
        have x1 := (hX 1 _ rfl).1
        have x2 := (hX 2 _ rfl).1
        have x3 := (hX 3 _ rfl).1
        have x4 := (hX 4 _ rfl).1
        have x5 := (hX 5 _ rfl).1
        have y0 := (hY 0 _ rfl).1
        have y1 := (hY 1 _ rfl).1
        have y2 := (hY 2 _ rfl).1
        have y3 := (hY 3 _ rfl).1
        have y4 := (hY 4 _ rfl).1
        have y5 := (hY 5 _ rfl).1
        clear hX hY
        have hZ := HZ.out _ hp
        have z0 := (hZ.1 0 _ rfl).1
        have z1 := (hZ.1 1 _ rfl).1
        have z2 := (hZ.1 2 _ rfl).1
        have z3 := (hZ.1 3 _ rfl).1
        have z4 := (hZ.1 4 _ rfl).1
        have z5 := (hZ.1 5 _ rfl).1
        clear hZ
        cases okC
        · go_wp2_with fail
          all_goals
            go_ret
            exact ⟨rfl, HB.out _ hq⟩
        go_wp2_with fail
        obtain ⟨m, hmm⟩ : ∃ m, vcmp hB FB hC FC = m := ⟨_, rfl⟩
        have hmb := three (hmm ▸ vcmp_bd hB hC FB FC)
        refine (iCmpS (HS.out _ hq).2 (HZ.out _ hp).2 (Nat.le_refl _) (Nat.le_refl _)).mono ?_
        rintro r w9 ⟨rfl, hb⟩
        have hq' := hq.trans (hb.mono hq.size)
        have hp' := hp.trans (hb.mono hp.size)
        clear hp
        have hp := hp'
        clear hp'
        clear hq hb
        have hq := hq'
        clear hq'
        rw [hmm]
        clear x0 y0 x1 y1 x2 y2 x3 y3 x4 y4 x5 y5 z0 z1 z2 z3 z4 z5
        obtain ⟨hX, hY⟩ := HX.out _ hq
        have x0 := (hX 0 _ rfl).1
        have x1 := (hX 1 _ rfl).1
        have x2 := (hX 2 _ rfl).1
        have x3 := (hX 3 _ rfl).1
        have x4 := (hX 4 _ rfl).1
        have x5 := (hX 5 _ rfl).1
        have y0 := (hY 0 _ rfl).1
        have y1 := (hY 1 _ rfl).1
        have y2 := (hY 2 _ rfl).1
        have y3 := (hY 3 _ rfl).1
        have y4 := (hY 4 _ rfl).1
        have y5 := (hY 5 _ rfl).1
        clear hX hY
        have hZ := HZ.out _ hp
        have z0 := (hZ.1 0 _ rfl).1
        have z1 := (hZ.1 1 _ rfl).1
        have z2 := (hZ.1 2 _ rfl).1
        have z3 := (hZ.1 3 _ rfl).1
        have z4 := (hZ.1 4 _ rfl).1
        have z5 := (hZ.1 5 _ rfl).1
        clear hZ
        have HM : Hid (vcmp hB FB hC FC = m) := hmm
        clear hmm
        rcases hmb with rfl | rfl | rfl
        · go_wp2_with fail
          refine (iCmpS (HS.out _ hq).1 (HZ.out _ hp).2 (Nat.le_refl _) (Nat.le_refl _)).mono ?_
          rintro r w10 ⟨rfl, hb⟩
          have hq' := hq.trans (hb.mono hq.size)
          have hp' := hp.trans (hb.mono hp.size)
          clear hp
          have hp := hp'
          clear hp'
          clear hq hb
          have hq := hq'
          clear hq'
          have hfin : vcmp hA FA hC FC ≤ 0 := vcmp_trans (hokA.1 (by trivial)) (hokB.1 (by trivial)) (hokC.1 (by trivial)) (by rw [HK.out]; decide) (by rw [HM.out]; decide)
          generalize vcmp hA FA hC FC = nn at *
          have hfd : decide (nn ≤ 0) = true := by simpa using hfin
          clear x0 y0 x1 y1 x2 y2 x3 y3 x4 y4 x5 y5 z0 z1 z2 z3 z4 z5
          go_wp2_with fail
          go_ret
          exact ⟨by (first | rfl | rw [hfd]), HB.out _ hq⟩
        · go_wp2_with fail
          refine (iCmpS (HS.out _ hq).1 (HZ.out _ hp).2 (Nat.le_refl _) (Nat.le_refl _)).mono ?_
          rintro r w10 ⟨rfl, hb⟩
          have hq' := hq.trans (hb.mono hq.size)
          have hp' := hp.trans (hb.mono hp.size)
          clear hp
          have hp := hp'
          clear hp'
          clear hq hb
          have hq := hq'
          clear hq'
          have hfin : vcmp hA FA hC FC ≤ 0 := vcmp_trans (hokA.1 (by trivial)) (hokB.1 (by trivial)) (hokC.1 (by trivial)) (by rw [HK.out]; decide) (by rw [HM.out]; decide)
          generalize vcmp hA FA hC FC = nn at *
          have hfd : decide (nn ≤ 0) = true := by simpa using hfin
          clear x0 y0 x1 y1 x2 y2 x3 y3 x4 y4 x5 y5 z0 z1 z2 z3 z4 z5
          go_wp2_with fail
          go_ret
          exact ⟨by (first | rfl | rw [hfd]), HB.out _ hq⟩
        · go_wp2_with fail
          all_goals
            go_ret
            exact ⟨rfl, HB.out _ hq⟩
      · rw [Int.neg_zero] at hk2
        go_wp2_with fail
        refine (iCmpS (HS.out _ hq).2 (HS.out _ hq).1 (Nat.le_refl _) (Nat.le_refl _)).mono ?_
        rintro r w5 ⟨rfl, hb⟩
        have hq' := hq.trans (hb.mono hq.size)
        clear hq hb
        have hq := hq'
        clear hq'
        rw [hk2]
        clear hk2
        clear x0 y0 x1 y1 x2 y2 x3 y3 x4 y4 x5 y5
        obtain ⟨hX, hY⟩ := HX.out _ hq
        have x0 := (hX 0 _ rfl).1
        have x1 := (hX 1 _ rfl).1
        have x2 := (hX 2 _ rfl).1
        have x3 := (hX 3 _ rfl).1
        have x4 := (hX 4 _ rfl).1
        have x5 := (hX 5 _ rfl).1
        have y0 := (hY 0 _ rfl).1
        have y1 := (hY 1 _ rfl).1
        have y2 := (hY 2 _ rfl).1
        have y3 := (hY 3 _ rfl).1
        have y4 := (hY 4 _ rfl).1
        have y5 := (hY 5 _ rfl).1
        clear hX hY
        go_wp2_with fail
        have hcw := HC.out _ hq
        refine (drawValueCmp_any w5 a2 len2 cap2 hcw).mono ?_
        rintro e wd ⟨⟨hC, FC, ac, cc, hD, FD, ad, cd, rfl, SC, SD⟩, hb⟩
        have hq' := hq.trans (hb.mono hq.size)
        clear hq hb hcw SD
        have hq := hq'
        clear hq'
        clear x0 y0 x1 y1 x2 y2 x3 y3 x4 y4 x5 y5
        have hbX : Below wd.heap.size wd ((wd.alloc (.cells #[.int .i64 hC.k, .int .i64 hC.m, .int .i64 hC.e, .string hC.t, .slice ac FC.len cc, .slice hC.na hC.ns.length hC.nc] 28)).alloc (.cells #[.int .i64 hD.k, .int .i64 hD.m, .int .i64 hD.e, .string hD.t, .slice ad FD.len cd, .slice hD.na hD.ns.length hD.nc] 28)) := by exact (by (repeat' (first | assumption | exact Below.refl _ _ | refine Below.alloc ?_ ?_ _ | refine Below.setCell ?_ ?_ _ | refine Below.drew ?_ | refine below_drewN ?_ _)) <;> (first | omega | (simp <;> omega)))
        have Z : Row ((wd.alloc (.cells #[.int .i64 hC.k, .int .i64 hC.m, .int .i64 hC.e, .string hC.t, .slice ac FC.len cc, .slice hC.na hC.ns.length hC.nc] 28)).alloc (.cells #[.int .i64 hD.k, .int .i64 hD.m, .int .i64 hD.e, .string hD.t, .slice ad FD.len cd, .slice hD.na hD.ns.length hD.nc] 28)) wd.heap.size (six hC ac FC.len cc) := (Row.new wd _ _).below ((Below.refl _ _).alloc (Nat.le_refl _) _) (by simp)
        have U : Row ((wd.alloc (.cells #[.int .i64 hC.k, .int .i64 hC.m, .int .i64 hC.e, .string hC.t, .slice ac FC.len cc, .slice hC.na hC.ns.length hC.nc] 28)).alloc (.cells #[.int .i64 hD.k, .int .i64 hD.m, .int .i64 hD.e, .string hD.t, .slice ad FD.len cd, .slice hD.na hD.ns.length hD.nc] 28)) (wd.heap.size + 1) (six hD ad FD.len cd) := by
          have := Row.new (wd.alloc (.cells #[.int .i64 hC.k, .int .i64 hC.m, .int .i64 hC.e, .string hC.t, .slice ac FC.len cc, .slice hC.na hC.ns.length hC.nc] 28)) (six hD ad FD.len cd) 28
          rw [World.size_alloc] at this
          exact this
        clear U
        have hqX := hq.trans (hbX.mono hq.size)
        obtain ⟨hX, hY⟩ := HX.out _ hqX
        have x0 := (hX 0 _ rfl).1
        have x1 := (hX 1 _ rfl).1
        have x2 := (hX 2 _ rfl).1
        have x3 := (hX 3 _ rfl).1
        have x4 := (hX 4 _ rfl).1
        have x5 := (hX 5 _ rfl).1
        clear hX hY hqX
        go_wp2_with fail
        clear x0 x1 x2 x3 x4 x5
        obtain ⟨wf, hwf⟩ : ∃ wf, ((wd.alloc (.cells #[.int .i64 hC.k, .int .i64 hC.m, .int .i64 hC.e, .string hC.t, .slice ac FC.len cc, .slice hC.na hC.ns.length hC.nc] 28)).alloc (.cells #[.int .i64 hD.k, .int .i64 hD.m, .int .i64 hD.e, .string hD.t, .slice ad FD.len cd, .slice hD.na hD.ns.length hD.nc] 28)) = wf := ⟨_, rfl⟩
        rw [hwf] at hbX Z ⊢
        clear hwf
        have SC2 := SC.below hbX
        have hq' := hq.trans (hbX.mono hq.size)
        clear hq SC hbX
        have hq := hq'
        clear hq'
        obtain ⟨vc, hvc⟩ : ∃ vc, wd.heap.size = vc := ⟨_, rfl⟩
        rw [hvc] at Z ⊢
        clear hvc
        obtain ⟨B3, HB3⟩ : ∃ B3 : Nat, Hid (∀ W, Below wf.heap.size wf W → Row W vc (six hC ac FC.len cc) ∧ AnyS B3 1000 W hC ac cc FC) := ⟨w5.heap.size, fun W h => ⟨Z.below h Z.lt, SC2.below h⟩⟩
        have HZ := HB3
        clear HB3 Z SC2
        have hp := Below.refl wf.heap.size wf
        obtain ⟨hX, hY⟩ := HX.out _ hq
        have x0 := (hX 0 _ rfl).1
        have x1 := (hX 1 _ rfl).1
        have x2 := (hX 2 _ rfl).1
        have x3 := (hX 3 _ rfl).1
        have x4 := (hX 4 _ rfl).1
        have x5 := (hX 5 _ rfl).1
        have y0 := (hY 0 _ rfl).1
        have y1 := (hY 1 _ rfl).1
        have y2 := (hY 2 _ rfl).1
        have y3 := (hY 3 _ rfl).1
        have y4 := (hY 4 _ rfl).1
        have y5 := (hY 5 _ rfl).1
        clear hX hY
        have hZ := HZ.out _ hp
        have z0 := (hZ.1 0 _ rfl).1
        have z1 := (hZ.1 1 _ rfl).1
        have z2 := (hZ.1 2 _ rfl).1
        have z3 := (hZ.1 3 _ rfl).1
        have z4 := (hZ.1 4 _ rfl).1
        have z5 := (hZ.1 5 _ rfl).1
        clear hZ
        refine (sOkS (HS.out _ hq).1 (Nat.le_refl _)).mono ?_
        rintro r w6 ⟨⟨okA, rfl, hokA⟩, hb⟩
        have hq' := hq.trans (hb.mono hq.size)
        have hp' := hp.trans (hb.mono hp.size)
        clear hp
        have hp := hp'
        clear hp'
        clear hq hb
        have hq := hq'
        clear hq'
        clear x0 y0 x1 y1 x2 y2 x3 y3 x4 y4 x5 y5 z0 z1 z2 z3 z4 z5
        obtain ⟨hX, hY⟩ := HX.out _ hq
        have x0 := (hX 0 _ rfl).1
        have x1 := (hX 1 _ rfl).1
        have x2 := (hX 2 _ rfl).1
        have x3 := (hX 3 _ rfl).1
        have x4 := (hX 4 _ rfl).1
        have x5 := (hX 5 _ rfl).1
        have y0 := (hY 0 _ rfl).1
        have y1 := (hY 1 _ rfl).1
        have y2 := (hY 2 _ rfl).1
        have y3 := (hY 3 _ rfl).1
        have y4 := (hY 4 _ rfl).1
        have y5 := (hY 5 _ rfl).1
        clear hX hY
        have hZ := HZ.out _ hp
        have z0 := (hZ.1 0 _ rfl).1
        have z1 := (hZ.1 1 _ rfl).1
        have z2 := (hZ.1 2 _ rfl).1
        have z3 := (hZ.1 3 _ rfl).1
        have z4 := (hZ.1 4 _ rfl).1
        have z5 := (hZ.1 5 _ rfl).1
        clear hZ
        cases okA
        · go_wp2_with fail
          all_goals
            go_ret
            exact ⟨rfl, HB.out _ hq⟩
        go_wp2_with fail
        refine (sOkS (HS.out _ hq).2 (Nat.le_refl _)).mono ?_
        rintro r w7 ⟨⟨okB, rfl, hokB⟩, hb⟩
        have hq' := hq.trans (hb.mono hq.size)
        have hp' := hp.trans (hb.mono hp.size)
        clear hp
        have hp := hp'
        clear hp'
        clear hq hb
        have hq := hq'
        clear hq'
        clear x0 y0 x1 y1 x2 y2 x3 y3 x4 y4 x5 y5 z0 z1 z2 z3 z4 z5
        obtain ⟨hX, hY⟩ := HX.out _ hq
        have x0 := (hX 0 _ rfl).1
        have x1 := (hX 1 _ rfl).1
        have x2 := (hX 2 _ rfl).1
        have x3 := (hX 3 _ rfl).1
        have x4 := (hX 4 _ rfl).1
        have x5 := (hX 5 _ rfl).1
        have y0 := (hY 0 _ rfl).1
        have y1 := (hY 1 _ rfl).1
        have y2 := (hY 2 _ rfl).1
        have y3 := (hY 3 _ rfl).1
        have y4 := (hY 4 _ rfl).1
        have y5 := (hY 5 _ rfl).1
        clear hX hY
        have hZ := HZ.out _ hp
        have z0 := (hZ.1 0 _ rfl).1
        have z1 := (hZ.1 1 _ rfl).1
        have z2 := (hZ.1 2 _ rfl).1
        have z3 := (hZ.1 3 _ rfl).1
        have z4 := (hZ.1 4 _ rfl).1
        have z5 := (hZ.1 5 _ rfl).1
        clear hZ
        cases okB
        · go_wp2_with fail
          all_goals
            go_ret
            exact ⟨rfl, HB.out _ hq⟩
        go_wp2_with fail
        refine (sOkS (HZ.out _ hp).2 (Nat.le_refl _)).mono ?_
        rintro r w8 ⟨⟨okC, rfl, hokC⟩, hb⟩
        have hq' := hq.trans (hb.mono hq.size)
        have hp' := hp.trans (hb.mono hp.size)
        clear hp
        have hp := hp'
        clear hp'
        clear hq hb
        have hq := hq'
        clear hq'
        clear x0 y0 x1 y1 x2 y2 x3 y3 x4 y4 x5 y5 z0 z1 z2 z3 z4 z5
        obtain ⟨hX, hY⟩ := HX.out _ hq
        have x0 := (hX 0 _ rfl).1
        have x1 := (hX 1 _ rfl).1
        have x2 := (hX 2 _ rfl).1
        have x3 := (hX 3 _ rfl).1
        have x4 := (hX 4 _ rfl).1
        have x5 := (hX 5 _ rfl).1
        have y0 := (hY 0 _ rfl).1
        have y1 := (hY 1 _ rfl).1
        have y2 := (hY 2 _ rfl).1
        have y3 := (hY 3 _ rfl).1
        have y4 := (hY 4 _ rfl).1
        have y5 := (hY 5 _ rfl).1
        clear hX hY
        have hZ := HZ.out _ hp
        have z0 := (hZ.1 0 _ rfl).1
        have z1 := (hZ.1 1 _ rfl).1
        have z2 := (hZ.1 2 _ rfl).1
        have z3 := (hZ.1 3 _ rfl).1
        have z4 := (hZ.1 4 _ rfl).1
        have z5 := (hZ.1 5 _ rfl).1
        clear hZ
        cases okC
        · go_wp2_with fail
          all_goals
            go_ret
            exact ⟨rfl, HB.out _ hq⟩
        go_wp2_with fail
        obtain ⟨m, hmm⟩ : ∃ m, vcmp hB FB hC FC = m := ⟨_, rfl⟩
        have hmb := three (hmm ▸ vcmp_bd hB hC FB FC)
        refine (iCmpS (HS.out _ hq).2 (HZ.out _ hp).2 (Nat.le_refl _) (Nat.le_refl _)).mono ?_
        rintro r w9 ⟨rfl, hb⟩
        have hq' := hq.trans (hb.mono hq.size)
        have hp' := hp.trans (hb.mono hp.size)
        clear hp
        have hp := hp'
        clear hp'
        clear hq hb
        have hq := hq'
        clear hq'
        rw [hmm]
        clear x0 y0 x1 y1 x2 y2 x3 y3 x4 y4 x5 y5 z0 z1 z2 z3 z4 z5
        obtain ⟨hX, hY⟩ := HX.out _ hq
        have x0 := (hX 0 _ rfl).1
        have x1 := (hX 1 _ rfl).1
        have x2 := (hX 2 _ rfl).1
        have x3 := (hX 3 _ rfl).1
        have x4 := (hX 4 _ rfl).1
        have x5 := (hX 5 _ rfl).1
        have y0 := (hY 0 _ rfl).1
        have y1 := (hY 1 _ rfl).1
        have y2 := (hY 2 _ rfl).1
        have y3 := (hY 3 _ rfl).1
        have y4 := (hY 4 _ rfl).1
        have y5 := (hY 5 _ rfl).1
        clear hX hY
        have hZ := HZ.out _ hp
        have z0 := (hZ.1 0 _ rfl).1
        have z1 := (hZ.1 1 _ rfl).1
        have z2 := (hZ.1 2 _ rfl).1
        have z3 := (hZ.1 3 _ rfl).1
        have z4 := (hZ.1 4 _ rfl).1
        have z5 := (hZ.1 5 _ rfl).1
        clear hZ
        have HM : Hid (vcmp hB FB hC FC = m) := hmm
        clear hmm
        rcases hmb with rfl | rfl | rfl
        · go_wp2_with fail
          refine (iCmpS (HS.out _ hq).1 (HZ.out _ hp).2 (Nat.le_refl _) (Nat.le_refl _)).mono ?_
          rintro r w10 ⟨rfl, hb⟩
          have hq' := hq.trans (hb.mono hq.size)
          have hp' := hp.trans (hb.mono hp.size)
          clear hp
          have hp := hp'
          clear hp'
          clear hq hb
          have hq := hq'
          clear hq'
          have hfin : vcmp hA FA hC FC ≤ 0 := vcmp_trans (hokA.1 (by trivial)) (hokB.1 (by trivial)) (hokC.1 (by trivial)) (by rw [HK.out]; decide) (by rw [HM.out]; decide)
          generalize vcmp hA FA hC FC = nn at *
          have hfd : decide (nn ≤ 0) = true := by simpa using hfin
          clear x0 y0 x1 y1 x2 y2 x3 y3 x4 y4 x5 y5 z0 z1 z2 z3 z4 z5
          go_wp2_with fail
          go_ret
          exact ⟨by (first | rfl | rw [hfd]), HB.out _ hq⟩
        · go_wp2_with fail
          refine (iCmpS (HS.out _ hq).1 (HZ.out _ hp).2 (Nat.le_refl _) (Nat.le_refl _)).mono ?_
          rintro r w10 ⟨rfl, hb⟩
          have hq' := hq.trans (hb.mono hq.size)
          have hp' := hp.trans (hb.mono hp.size)
          clear hp
          have hp := hp'
          clear hp'
          clear hq hb
          have hq := hq'
          clear hq'
          have hfin : vcmp hA FA hC FC ≤ 0 := vcmp_trans (hokA.1 (by trivial)) (hokB.1 (by trivial)) (hokC.1 (by trivial)) (by rw [HK.out]; decide) (by rw [HM.out]; decide)
          generalize vcmp hA FA hC FC = nn at *
          have hfd : decide (nn ≤ 0) = true := by simpa using hfin
          clear x0 y0 x1 y1 x2 y2 x3 y3 x4 y4 x5 y5 z0 z1 z2 z3 z4 z5
          go_wp2_with fail
          go_ret
          exact ⟨by (first | rfl | rw [hfd]), HB.out _ hq⟩
        · go_wp2_with fail
          all_goals
            go_ret
            exact ⟨rfl, HB.out _ hq⟩
      · rw [show -(1 : Int) = -1 by decide] at hk2
        go_wp2_with fail
        refine (iCmpS (HS.out _ hq).2 (HS.out _ hq).1 (Nat.le_refl _) (Nat.le_refl _)).mono ?_
        rintro r w5 ⟨rfl, hb⟩
        have hq' := hq.trans (hb.mono hq.size)
        clear hq hb
        have hq := hq'
        clear hq'
        rw [hk2]
        clear hk2
        clear x0 y0 x1 y1 x2 y2 x3 y3 x4 y4 x5 y5
        obtain ⟨hX, hY⟩ := HX.out _ hq
        have x0 := (hX 0 _ rfl).1
        have x1 := (hX 1 _ rfl).1
        have x2 := (hX 2 _ rfl).1
        have x3 := (hX 3 _ rfl).1
        have x4 := (hX 4 _ rfl).1
        have x5 := (hX 5 _ rfl).1
        have y0 := (hY 0 _ rfl).1
        have y1 := (hY 1 _ rfl).1
        have y2 := (hY 2 _ rfl).1
        have y3 := (hY 3 _ rfl).1
        have y4 := (hY 4 _ rfl).1
        have y5 := (hY 5 _ rfl).1
        clear hX hY
        go_wp2_with fail
        have hcw := HC.out _ hq
        refine (drawValueCmp_any w5 a2 len2 cap2 hcw).mono ?_
        rintro e wd ⟨⟨hC, FC, ac, cc, hD, FD, ad, cd, rfl, SC, SD⟩, hb⟩
        have hq' := hq.trans (hb.mono hq.size)
        clear hq hb hcw SD
        have hq := hq'
        clear hq'
        clear x0 y0 x1 y1 x2 y2 x3 y3 x4 y4 x5 y5
        have hbX : Below wd.heap.size wd ((wd.alloc (.cells #[.int .i64 hC.k, .int .i64 hC.m, .int .i64 hC.e, .string hC.t, .slice ac FC.len cc, .slice hC.na hC.ns.length hC.nc] 28)).alloc (.cells #[.int .i64 hD.k, .int .i64 hD.m, .int .i64 hD.e, .string hD.t, .slice ad FD.len cd, .slice hD.na hD.ns.length hD.nc] 28)) := by exact (by (repeat' (first | assumption | exact Below.refl _ _ | refine Below.alloc ?_ ?_ _ | refine Below.setCell ?_ ?_ _ | refine Below.drew ?_ | refine below_drewN ?_ _)) <;> (first | omega | (simp <;> omega)))
        have Z : Row ((wd.alloc (.cells #[.int .i64 hC.k, .int .i64 hC.m, .int .i64 hC.e, .string hC.t, .slice ac FC.len cc, .slice hC.na hC.ns.length hC.nc] 28)).alloc (.cells #[.int .i64 hD.k, .int .i64 hD.m, .int .i64 hD.e, .string hD.t, .slice ad FD.len cd, .slice hD.na hD.ns.length hD.nc] 28)) wd.heap.size (six hC ac FC.len cc) := (Row.new wd _ _).below ((Below.refl _ _).alloc (Nat.le_refl _) _) (by simp)
        have U : Row ((wd.alloc (.cells #[.int .i64 hC.k, .int .i64 hC.m, .int .i64 hC.e, .string hC.t, .slice ac FC.len cc, .slice hC.na hC.ns.length hC.nc] 28)).alloc (.cells #[.int .i64 hD.k, .int .i64 hD.m, .int .i64 hD.e, .string hD.t, .slice ad FD.len cd, .slice hD.na hD.ns.length hD.nc] 28)) (wd.heap.size + 1) (six hD ad FD.len cd) := by
          have := Row.new (wd.alloc (.cells #[.int .i64 hC.k, .int .i64 hC.m, .int .i64 hC.e, .string hC.t, .slice ac FC.len cc, .slice hC.na hC.ns.length hC.nc] 28)) (six hD ad FD.len cd) 28
          rw [World.size_alloc] at this
          exact this
        clear U
        have hqX := hq.trans (hbX.mono hq.size)
        obtain ⟨hX, hY⟩ := HX.out _ hqX
        have x0 := (hX 0 _ rfl).1
        have x1 := (hX 1 _ rfl).1
        have x2 := (hX 2 _ rfl).1
        have x3 := (hX 3 _ rfl).1
        have x4 := (hX 4 _ rfl).1
        have x5 := (hX 5 _ rfl).1
        clear hX hY hqX
        go_wp2_with fail
        clear x0 x1 x2 x3 x4 x5
        obtain ⟨wf, hwf⟩ : ∃ wf, ((wd.alloc (.cells #[.int .i64 hC.k, .int .i64 hC.m, .int .i64 hC.e, .string hC.t, .slice ac FC.len cc, .slice hC.na hC.ns.length hC.nc] 28)).alloc (.cells #[.int .i64 hD.k, .int .i64 hD.m, .int .i64 hD.e, .string hD.t, .slice ad FD.len cd, .slice hD.na hD.ns.length hD.nc] 28)) = wf := ⟨_, rfl⟩
        rw [hwf] at hbX Z ⊢
        clear hwf
        have SC2 := SC.below hbX
        have hq' := hq.trans (hbX.mono hq.size)
        clear hq SC hbX
        have hq := hq'
        clear hq'
        obtain ⟨vc, hvc⟩ : ∃ vc, wd.heap.size = vc := ⟨_, rfl⟩
        rw [hvc] at Z ⊢
        clear hvc
        obtain ⟨B3, HB3⟩ : ∃ B3 : Nat, Hid (∀ W, Below wf.heap.size wf W → Row W vc (six hC ac FC.len cc) ∧ AnyS B3 1000 W hC ac cc FC) := ⟨w5.heap.size, fun W h => ⟨Z.below h Z.lt, SC2.below h⟩⟩
        have HZ := HB3
        clear HB3 Z SC2
        have hp := Below.refl wf.heap.size wf
        obtain ⟨hX, hY⟩ := HX.out _ hq
        have x0 := (hX 0 _ rfl).1
        have x1 := (hX 1 _ rfl).1
        have x2 := (hX 2 _ rfl).1
        have x3 := (hX 3 _ rfl).1
        have x4 := (hX 4 _ rfl).1
        have x5 := (hX 5 _ rfl).1
        have y0 := (hY 0 _ rfl).1
        have y1 := (hY 1 _ rfl).1
        have y2 := (hY 2 _ rfl).1
        have y3 := (hY 3 _ rfl).1
        have y4 := (hY 4 _ rfl).1
        have y5 := (hY 5 _ rfl).1
        clear hX hY
        have hZ := HZ.out _ hp
        have z0 := (hZ.1 0 _ rfl).1
        have z1 := (hZ.1 1 _ rfl).1
        have z2 := (hZ.1 2 _ rfl).1
        have z3 := (hZ.1 3 _ rfl).1
        have z4 := (hZ.1 4 _ rfl).1
        have z5 := (hZ.1 5 _ rfl).1
        clear hZ
        refine (sOkS (HS.out _ hq).1 (Nat.le_refl _)).mono ?_
        rintro r w6 ⟨⟨okA, rfl, hokA⟩, hb⟩
        have hq' := hq.trans (hb.mono hq.size)
        have hp' := hp.trans (hb.mono hp.size)
        clear hp
        have hp := hp'
        clear hp'
        clear hq hb
        have hq := hq'
        clear hq'
        clear x0 y0 x1 y1 x2 y2 x3 y3 x4 y4 x5 y5 z0 z1 z2 z3 z4 z5
        obtain ⟨hX, hY⟩ := HX.out _ hq
        have x0 := (hX 0 _ rfl).1
        have x1 := (hX 1 _ rfl).1
        have x2 := (hX 2 _ rfl).1
        have x3 := (hX 3 _ rfl).1
        have x4 := (hX 4 _ rfl).1
        have x5 := (hX 5 _ rfl).1
        have y0 := (hY 0 _ rfl).1
        have y1 := (hY 1 _ rfl).1
        have y2 := (hY 2 _ rfl).1
        have y3 := (hY 3 _ rfl).1
        have y4 := (hY 4 _ rfl).1
        have y5 := (hY 5 _ rfl).1
        clear hX hY
        have hZ := HZ.out _ hp
        have z0 := (hZ.1 0 _ rfl).1
        have z1 := (hZ.1 1 _ rfl).1
        have z2 := (hZ.1 2 _ rfl).1
        have z3 := (hZ.1 3 _ rfl).1
        have z4 := (hZ.1 4 _ rfl).1
        have z5 := (hZ.1 5 _ rfl).1
        clear hZ
        cases okA
        · go_wp2_with fail
          all_goals
            go_ret
            exact ⟨rfl, HB.out _ hq⟩
        go_wp2_with fail
        refine (sOkS (HS.out _ hq).2 (Nat.le_refl _)).mono ?_
        rintro r w7 ⟨⟨okB, rfl, hokB⟩, hb⟩
        have hq' := hq.trans (hb.mono hq.size)
        have hp' := hp.trans (hb.mono hp.size)
        clear hp
        have hp := hp'
        clear hp'
        clear hq hb
        have hq := hq'
        clear hq'
        clear x0 y0 x1 y1 x2 y2 x3 y3 x4 y4 x5 y5 z0 z1 z2 z3 z4 z5
        obtain ⟨hX, hY⟩ := HX.out _ hq
        have x0 := (hX 0 _ rfl).1
        have x1 := (hX 1 _ rfl).1
        have x2 := (hX 2 _ rfl).1
        have x3 := (hX 3 _ rfl).1
        have x4 := (hX 4 _ rfl).1
        have x5 := (hX 5 _ rfl).1
        have y0 := (hY 0 _ rfl).1
        have y1 := (hY 1 _ rfl).1
        have y2 := (hY 2 _ rfl).1
        have y3 := (hY 3 _ rfl).1
        have y4 := (hY 4 _ rfl).1
        have y5 := (hY 5 _ rfl).1
        clear hX hY
        have hZ := HZ.out _ hp
        have z0 := (hZ.1 0 _ rfl).1
        have z1 := (hZ.1 1 _ rfl).1
        have z2 := (hZ.1 2 _ rfl).1
        have z3 := (hZ.1 3 _ rfl).1
        have z4 := (hZ.1 4 _ rfl).1
        have z5 := (hZ.1 5 _ rfl).1
        clear hZ
        cases okB
        · go_wp2_with fail
          all_goals
            go_ret
            exact ⟨rfl, HB.out _ hq⟩
        go_wp2_with fail
        refine (sOkS (HZ.out _ hp).2 (Nat.le_refl _)).mono ?_
        rintro r w8 ⟨⟨okC, rfl, hokC⟩, hb⟩
        have hq' := hq.trans (hb.mono hq.size)
        have hp' := hp.trans (hb.mono hp.size)
        clear hp
        have hp := hp'
        clear hp'
        clear hq hb
        have hq := hq'
        clear hq'
        clear x0 y0 x1 y1 x2 y2 x3 y3 x4 y4 x5 y5 z0 z1 z2 z3 z4 z5
        obtain ⟨hX, hY⟩ := HX.out _ hq
        have x0 := (hX 0 _ rfl).1
        have x1 := (hX 1 _ rfl).1
        have x2 := (hX 2 _ rfl).1
        have x3 := (hX 3 _ rfl).1
        have x4 := (hX 4 _ rfl).1
        have x5 := (hX 5 _ rfl).1
        have y0 := (hY 0 _ rfl).1
        have y1 := (hY 1 _ rfl).1
        have y2 := (hY 2 _ rfl).1
        have y3 := (hY 3 _ rfl).1
        have y4 := (hY 4 _ rfl).1
        have y5 := (hY 5 _ rfl).1
        clear hX hY
        have hZ := HZ.out _ hp
        have z0 := (hZ.1 0 _ rfl).1
        have z1 := (hZ.1 1 _ rfl).1
        have z2 := (hZ.1 2 _ rfl).1
        have z3 := (hZ.1 3 _ rfl).1
        have z4 := (hZ.1 4 _ rfl).1
        have z5 := (hZ.1 5 _ rfl).1
        clear hZ
        cases okC
        · go_wp2_with fail
          all_goals
            go_ret
            exact ⟨rfl, HB.out _ hq⟩
        go_wp2_with fail
        all_goals
          go_ret
          exact ⟨rfl, HB.out _ hq⟩
    · have h1 : ¬ (len2 : Int) ≤ 1048576 := by omega
      go_enter Try.func5, Try.ntmps5
      go_wp2
      go_ret
      exact ⟨rfl, Below.refl _ _⟩
  · have h1 : ¬ (len : Int) ≤ 1048576 := by omega
    go_enter Try.func5, Try.ntmps5
    go_wp2
    go_ret
    exact ⟨rfl, Below.refl _ _⟩
end Go.Proofs.Ytalncebnahlmdaa
