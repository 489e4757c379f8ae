/- My own texts, joined: Mb LFnExactFrees. -/
import Derived.Test.YtbbbmmemfndnlaaJFrees6
import Derived.Test.YtbbbmmemfndnlaaJFrees3
import Derived.Deep.RegionHeld3
import Derived.Test.YtbbbmmemfndnlaaJFrees5
import Derived.Test.YtbbbmmemfndnlaaJFrees4
/- Names from outside, by the program: addFrees, Frees. -/
namespace Go.Proofs.Ytbbbmmemfndnlaa
open Go.RowKit
attribute [local go_sem] cell_alloc_is frozen_alloc_is
theorem drop_wt (F : Fo) : ∀ {j : Nat}, (F.drop j).wt ≤ F.wt := by
  induction F with
  | nil => intro j; cases j <;> exact Nat.le_refl _
  | cons k t m e a c kids next _ ih =>
    intro j
    cases j with
    | zero => exact Nat.le_refl _
    | succ j => have := ih (j := j); show (next.drop j).wt ≤ t.size + kids.wt + 1 + next.wt; omega
theorem hasT_append (x : ByteArray) (a b : List ByteArray) : hasT x (a ++ b) = (hasT x a || hasT x b) := by unfold hasT; rw [List.any_append]
theorem NL.below {B lb : Nat} {w w' : World} {ns : List ByteArray} (h : NL B w lb ns) (hb : Below w.heap.size w w') : NL B w' lb ns :=
  h.own fun j _ hj _ => (hb.block j (Array.getElem?_eq_some_iff.1 hj).1).trans hj
set_option maxRecDepth 100000 in
set_option maxHeartbeats 2000000 in
theorem addFrees_all (w0 : World) (N : Nat) : ∀ (k : Int) (t : ByteArray) (m e : Int) (a : Option Addr) (c : Nat) (F : Fo) (bound : List ByteArray) (Ls : List Lev) (p : Option Addr) (ns : List ByteArray) (lb : Nat) (w : World), F.size < N → F.In w0 a → F.len ≤ c → c ≤ maxLen → t.size ≤ 1048576 ∧ F.wt ≤ 1048576 → lamOk k F → F.Lam → Below w0.heap.size w0 w → w0.heap.size ≤ lb → NL w0.heap.size w lb ns → ascT ns → ns.length + F.size + 1 ≤ 500000 → ScIn w p Ls → (∀ x, scHas x Ls = hasT x bound) →
    Calls Try.prog 29 #[.pointer (some ⟨lb, 0, none⟩), nodeV k t m e a F.len c, .pointer p] w fun r w' => r = .returned (.tuple #[]) ∧ NL w0.heap.size w' lb (fri1 k t F bound ns) ∧ Wr w0.heap.size lb w w' := by
  induction N with
  | zero => intro k t m e a c F bound Ls p ns lb w hF; omega
  | succ N ih =>
    intro k t m e a c F bound Ls p ns lb w hF hin hl hc ht hlam hLam hB0 hlb hNL hasc hsz hSc hBd
    have hll := F.len_le
    have hc2 : c ≤ 2 ^ 63 - 1 := hc
    have hb0 : Below w.heap.size w (w.alloc (.cells #[.int .i64 k, .string t, .int .i64 m, .int .i64 e, .slice a F.len c] 33)) := (Below.refl _ _).alloc (Nat.le_refl _) _
    have f0 := BoxN.new w k t m e (.slice a F.len c)
    have hBn := binds_any Ls p t _ (hSc.keep (KeepS.of_below hb0))
    have hNL0 := hNL.below hb0
    have hB1 := hB0.trans (hb0.mono hB0.size)
    have hSc1 := hSc.keep (KeepS.of_below hb0)
    have hW0 : Wr w0.heap.size lb w (w.alloc (.cells #[.int .i64 k, .string t, .int .i64 m, .int .i64 e, .slice a F.len c] 33)) := Wr.of_below hb0 hB0.size
    have hAd := add_any (s := t) hNL0 hasc hB1.size hlb (by omega) (by omega)
    have hcs : ((k == 6) = true ∧ scHas t Ls = false) ∨ ((k == 6) = true ∧ scHas t Ls = true) ∨ (k == 6) = false := by
      by_cases hk : k = 6
      · cases hq : scHas t Ls
        · exact .inl ⟨by simp [hk], rfl⟩
        · exact .inr (.inl ⟨by simp [hk], rfl⟩)
      · exact .inr (.inr (by simp [hk]))
    have HP : Hid (∀ n0, (((k == 6) = true ∧ scHas t Ls = false) → n0 = put1 t ns) → (¬ ((k == 6) = true ∧ scHas t Ls = false) → n0 = ns) → F.fri k t F bound 0 n0 = fri1 k t F bound ns) := by
      intro n0 h1 h2
      unfold fri1
      by_cases hq : (k == 6) = true ∧ scHas t Ls = false
      · rw [if_pos ⟨by simpa using hq.1, by rw [← hBd]; exact hq.2⟩, h1 hq]
      · rw [if_neg (fun hh => hq ⟨by simp [hh.1], by rw [hBd]; exact hh.2⟩), h2 hq]
    have HLm : Hid (lamOk k F ∧ F.Lam) := ⟨hlam, hLam⟩
    have HIn : Hid (F.In w0 a) := hin
    have HBd : Hid (∀ x, scHas x Ls = hasT x bound) := hBd
    have HW : Hid (t.size ≤ 1048576 ∧ F.wt ≤ 1048576) := ht
    clear hlam hLam hin hNL hSc hB0 hBd
    have hp1 := asc_put1 (s := t) hasc
    have hp2 := put1_len t ns
    rcases hcs with ⟨hk, hh⟩ | ⟨hk, hh⟩ | hk
    all_goals first | rw [hh] at hBn | clear hBn
    all_goals go_enter Try.func29, Try.ntmps29
    all_goals obtain ⟨x0, x1, x2, x3, x4⟩ := f0.cells
    all_goals go_wp2_with fail
    · refine hBn.mono ?_
      rintro r w1 ⟨rfl, rfl⟩
      clear hBn
      go_wp2_with fail
      refine hAd.mono ?_
      rintro r wX ⟨rfl, hNX, hWX'⟩
      have hWX := hW0.trans hWX'
      have hfX := f0.wr hWX' hNL0
      have hScX := hSc1.keep (KeepS.of_wr hWX' hNL0)
      have hBX := hB1.trans hWX'.1
      obtain ⟨n0, hn0⟩ : ∃ n0, n0 = put1 t ns := ⟨_, rfl⟩
      have hax : ascT n0 := by rw [hn0]; exact hp1
      have hlx : n0.length ≤ ns.length + 1 := by rw [hn0]; exact hp2
      have HF0 : Hid (F.fri k t F bound 0 n0 = fri1 k t F bound ns) := HP.out n0 (fun _ => hn0) (fun h => absurd ⟨hk, hh⟩ h)
      rw [← hn0] at hNX
      clear hn0 hWX' hAd hNL0 hSc1 hW0 f0 hp1 hp2 hB1 hb0 x0 x1 x2 x3 x4 hh hk
      obtain ⟨x0, x1, x2, x3, x4⟩ := hfX.cells
      go_wp2_with fail
      go_loopw [25] (fun i wr => ∃ (j : Nat) (G : Fo) (nj : List ByteArray), i = .int .i64 j ∧ F.drop j = G ∧ (j + G.len = F.len ∧ j + G.size ≤ F.size) ∧ nj.length + G.size ≤ ns.length + 1 + F.size ∧ ascT nj ∧ G.fri k t F bound j nj = fri1 k t F bound ns ∧ NL w0.heap.size wr lb nj ∧ BoxN wr w.heap.size k t m e (.slice a F.len c) ∧ ScIn wr p Ls ∧ Below w0.heap.size w0 wr ∧ Wr w0.heap.size lb w wr) (fun i _ => F.len - (intOf i).toNat)
      case atStart => exact ⟨0, F, n0, rfl, drop_zero F, ⟨Nat.zero_add _, by omega⟩, by omega, hax, HF0.out, hNX, hfX, hScX, hBX, hWX⟩
      case round =>
        clear hNX hfX hScX hBX hWX hax x0 x1 x2 x3 x4
        obtain ⟨j, G, nj, rfl, hd, ⟨hj1, hj2⟩, hq, ha, hfr, hN, hbox, hS, hB, hWr⟩ := hrel
        have HQ : Hid (G.fri k t F bound j nj = fri1 k t F bound ns) := hfr
        have HG : Hid (F.drop j = G) := hd
        clear hfr hd
        cases G with
        | nil =>
          have hj' : j = F.len := by simpa [Fo.len] using hj1
          have hlt : ¬ (j : Int) < (F.len : Int) := by omega
          have HZ : Hid (NL w0.heap.size wr lb (fri1 k t F bound ns) ∧ Wr w0.heap.size lb w wr) := by
            have e : nj = fri1 k t F bound ns := HQ.out
            rw [← e]; exact ⟨hN, hWr⟩
          clear hN hWr hbox hS hB ih hj1 hj2
          go_wp2_with fail
          go_end0
          exact ⟨rfl, HZ.out⟩
        | cons k' t' m' e' a' c' kids next =>
          have hlt : (j : Int) < (F.len : Int) := by have : j + (next.len + 1) = F.len := hj1; omega
          have hjl : j < F.len := by omega
          have hsz2 : nj.length + (kids.size + 1 + next.size) ≤ ns.length + 1 + F.size := hq
          have hsz3 : j + (kids.size + 1 + next.size) ≤ F.size := hj2
          have hln : j + (next.len + 1) = F.len := hj1
          obtain ⟨b, o, rfl, hf0⟩ : ∃ b o, a = some ⟨b, o, none⟩ ∧ F.From w0 b o := by
            rcases HIn.out with h | ⟨b, o, e1, e2⟩
            · rw [h] at hjl; exact absurd hjl (Nat.not_lt_zero _)
            · exact ⟨b, o, e1, e2⟩
          have hfr0 := drop_from F (j := j) hf0
          rw [HG.out] at hfr0
          obtain ⟨-, hkin, hc1, hc3, ht', -⟩ := hfr0
          have hfr2 := drop_from F (j := j) (Fo.from_grow hB F b o hf0)
          rw [HG.out] at hfr2
          obtain ⟨⟨h1, h2, h3, h4, h5⟩, -⟩ := hfr2
          have hLm2 := drop_lam F (j := j) HLm.out.2
          rw [HG.out] at hLm2
          have hwt := drop_wt F (j := j)
          rw [HG.out] at hwt
          have hwt2 : t'.size + kids.wt + 1 + next.wt ≤ F.wt := hwt
          have hw2 : t'.size ≤ 1048576 ∧ kids.wt ≤ 1048576 := by have := HW.out.2; omega
          have hbA := (Below.refl wr.heap.size wr).alloc (Nat.le_refl _) (.cells #[.int .i64 k', .string t', .int .i64 m', .int .i64 e', .slice a' kids.len c'] 33)
          have hboxA := hbox.below hbA
          have hkb := BoxN.new wr k' t' m' e' (.slice a' kids.len c')
          have hNA := hN.below hbA
          have hSA := hS.keep (KeepS.of_below hbA)
          have hBA := hB.trans (hbA.mono hB.size)
          have hWA := hWr.trans (Wr.of_below hbA hB.size)
          obtain ⟨WA, hWAe⟩ : ∃ WA, WA = wr.alloc (.cells #[.int .i64 k', .string t', .int .i64 m', .int .i64 e', .slice a' kids.len c'] 33) := ⟨_, rfl⟩
          rw [← hWAe] at hboxA hkb hNA hSA hBA hWA
          have HBx := fun (w' : World) (hb : Below WA.heap.size WA w') => scBelow_any Ls p k t m e (some ⟨b, o, none⟩) c F j w' (hSA.keep (KeepS.of_below hb)) (.inr ⟨b, o, rfl, Fo.from_grow (hBA.trans (hb.mono hBA.size)) F b o hf0⟩) hl hc (by have := HW.out.1; unfold maxLen; omega) HLm.out.1 hjl (by omega)
          have HCx := fun (w' : World) (p' : Option Addr) (hb : Below WA.heap.size WA w') (hR : ∃ Ls', ScIn w' p' Ls' ∧ ∀ x, scHas x Ls' = (scHas x Ls || hasT x (bnd k t F j))) => show Calls Try.prog 29 #[.pointer (some ⟨lb, 0, none⟩), nodeV k' t' m' e' a' kids.len c', .pointer p'] w' (fun r w2 => r = .returned (.tuple #[]) ∧ (BoxN w2 w.heap.size k t m e (.slice (some ⟨b, o, none⟩) F.len c) ∧ BoxN w2 wr.heap.size k' t' m' e' (.slice a' kids.len c')) ∧ (NL w0.heap.size w2 lb (fri1 k' t' kids (bound ++ bnd k t F j) nj) ∧ Wr w0.heap.size lb w w2 ∧ ScIn w2 p Ls ∧ Below w0.heap.size w0 w2)) by
            obtain ⟨Ls', hS', hH'⟩ := hR
            have hN' := hNA.below hb
            refine (ih k' t' m' e' a' c' kids (bound ++ bnd k t F j) Ls' p' nj lb w' (by omega) hkin hc1 hc3 hw2 hLm2.1 hLm2.2.1 (hBA.trans (hb.mono hBA.size)) hlb hN' ha (by omega) hS' (fun x => by rw [hH', HBd.out, hasT_append])).mono ?_
            rintro r w2 ⟨rfl, hN2, hW2⟩
            exact ⟨rfl, ⟨(hboxA.below hb).wr hW2 hN', (hkb.below hb).wr hW2 hN'⟩, hN2, (hWA.trans (Wr.of_below hb hBA.size)).trans hW2, (hSA.keep (KeepS.of_below hb)).keep (KeepS.of_wr hW2 hN'), (hBA.trans (hb.mono hBA.size)).trans hW2.1⟩
          have HQ2 : Hid (next.fri k t F bound (j + 1) (fri1 k' t' kids (bound ++ bnd k t F j) nj) = fri1 k t F bound ns) := HQ.out
          obtain ⟨hax2, hlx2⟩ := fri1_ok k' t' kids (bound ++ bnd k t F j) nj ha
          have HL : Hid (ascT (fri1 k' t' kids (bound ++ bnd k t F j) nj) ∧ (fri1 k' t' kids (bound ++ bnd k t F j) nj).length + next.size ≤ ns.length + 1 + F.size ∧ j + 1 + next.len = F.len ∧ j + 1 + next.size ≤ F.size) := ⟨hax2, by omega, by omega, by omega⟩
          have HN : Hid (F.drop (j + 1) = next) := Fo.drop_next HG.out
          obtain ⟨x0, x1, x2, x3, x4⟩ := hbox.cells
          clear ih HQ hN hS hB hWr hkin hLm2 hwt hwt2 hax2 hlx2 hNA hSA hBA hWA ha hj1 hj2 hq hsz2 hsz3 hln
          go_wp2_with fail
          rw [← hWAe]
          refine la6 (RB := fun p' w2 => ∃ Ls', ScIn w2 p' Ls' ∧ ∀ x, scHas x Ls' = (scHas x Ls || hasT x (bnd k t F j))) (RC := fun w2 => NL w0.heap.size w2 lb (fri1 k' t' kids (bound ++ bnd k t F j) nj) ∧ Wr w0.heap.size lb w w2 ∧ ScIn w2 p Ls ∧ Below w0.heap.size w0 w2) hboxA hkb (fun w' hb => (HBx w' hb).mono (by rintro r w2 ⟨⟨p', Ls', rfl, h1, h2⟩, h3⟩; exact ⟨p', rfl, ⟨Ls', h1, h2⟩, h3⟩)) HCx (fun _ d _ _ _ h => by cases d <;> exact h) ?_
          intro W1 v30 v31 v32 v33 v34 v35 v36 hbx1 hRC
          obtain ⟨hN1, hW1, hS1, hBB1⟩ := hRC
          clear HCx HBx hboxA hkb hWAe hbox x0 x1 x2 x3 x4 h1 h2 h3 h4 h5
          go_wp2_with fail
          go_round
          case rel => exact ⟨j + 1, next, fri1 k' t' kids (bound ++ bnd k t F j) nj, by go_num, HN.out, HL.out.2.2, HL.out.2.1, HL.out.1, HQ2.out, hN1, hbx1, hS1, hBB1, hW1⟩
          case measure => simp [intOf]; omega
    · refine hBn.mono ?_
      rintro r w1 ⟨rfl, rfl⟩
      clear hBn
      go_wp2_with fail
      clear hAd hp1 hp2
      obtain ⟨n0, hn0⟩ : ∃ n0, n0 = ns := ⟨_, rfl⟩
      have HF0 : Hid (F.fri k t F bound 0 n0 = fri1 k t F bound ns) := HP.out n0 (fun h => by first | (rw [hh] at h; cases h.2) | (rw [hk] at h; cases h.1)) (fun _ => hn0)
      have hax : ascT n0 := by rw [hn0]; exact hasc
      have hlx : n0.length ≤ ns.length + 1 := by rw [hn0]; omega
      have hNX : NL w0.heap.size (w.alloc (.cells #[.int .i64 k, .string t, .int .i64 m, .int .i64 e, .slice a F.len c] 33)) lb n0 := by rw [hn0]; exact hNL0
      clear hn0 hNL0 hb0 hh hk
      obtain ⟨wX, hwX⟩ : ∃ wX, wX = w.alloc (.cells #[.int .i64 k, .string t, .int .i64 m, .int .i64 e, .slice a F.len c] 33) := ⟨_, rfl⟩
      rw [← hwX] at hNX hSc1 hW0 f0 hB1 ⊢
      have hfX := f0
      have hScX := hSc1
      have hBX := hB1
      have hWX := hW0
      clear f0 hSc1 hB1 hW0 hwX
      clear x0 x1 x2 x3 x4
      obtain ⟨x0, x1, x2, x3, x4⟩ := hfX.cells
      go_loopw [25] (fun i wr => ∃ (j : Nat) (G : Fo) (nj : List ByteArray), i = .int .i64 j ∧ F.drop j = G ∧ (j + G.len = F.len ∧ j + G.size ≤ F.size) ∧ nj.length + G.size ≤ ns.length + 1 + F.size ∧ ascT nj ∧ G.fri k t F bound j nj = fri1 k t F bound ns ∧ NL w0.heap.size wr lb nj ∧ BoxN wr w.heap.size k t m e (.slice a F.len c) ∧ ScIn wr p Ls ∧ Below w0.heap.size w0 wr ∧ Wr w0.heap.size lb w wr) (fun i _ => F.len - (intOf i).toNat)
      case atStart => exact ⟨0, F, n0, rfl, drop_zero F, ⟨Nat.zero_add _, by omega⟩, by omega, hax, HF0.out, hNX, hfX, hScX, hBX, hWX⟩
      case round =>
        clear hNX hfX hScX hBX hWX hax x0 x1 x2 x3 x4
        obtain ⟨j, G, nj, rfl, hd, ⟨hj1, hj2⟩, hq, ha, hfr, hN, hbox, hS, hB, hWr⟩ := hrel
        have HQ : Hid (G.fri k t F bound j nj = fri1 k t F bound ns) := hfr
        have HG : Hid (F.drop j = G) := hd
        clear hfr hd
        cases G with
        | nil =>
          have hj' : j = F.len := by simpa [Fo.len] using hj1
          have hlt : ¬ (j : Int) < (F.len : Int) := by omega
          have HZ : Hid (NL w0.heap.size wr lb (fri1 k t F bound ns) ∧ Wr w0.heap.size lb w wr) := by
            have e : nj = fri1 k t F bound ns := HQ.out
            rw [← e]; exact ⟨hN, hWr⟩
          clear hN hWr hbox hS hB ih hj1 hj2
          go_wp2_with fail
          go_end0
          exact ⟨rfl, HZ.out⟩
        | cons k' t' m' e' a' c' kids next =>
          have hlt : (j : Int) < (F.len : Int) := by have : j + (next.len + 1) = F.len := hj1; omega
          have hjl : j < F.len := by omega
          have hsz2 : nj.length + (kids.size + 1 + next.size) ≤ ns.length + 1 + F.size := hq
          have hsz3 : j + (kids.size + 1 + next.size) ≤ F.size := hj2
          have hln : j + (next.len + 1) = F.len := hj1
          obtain ⟨b, o, rfl, hf0⟩ : ∃ b o, a = some ⟨b, o, none⟩ ∧ F.From w0 b o := by
            rcases HIn.out with h | ⟨b, o, e1, e2⟩
            · rw [h] at hjl; exact absurd hjl (Nat.not_lt_zero _)
            · exact ⟨b, o, e1, e2⟩
          have hfr0 := drop_from F (j := j) hf0
          rw [HG.out] at hfr0
          obtain ⟨-, hkin, hc1, hc3, ht', -⟩ := hfr0
          have hfr2 := drop_from F (j := j) (Fo.from_grow hB F b o hf0)
          rw [HG.out] at hfr2
          obtain ⟨⟨h1, h2, h3, h4, h5⟩, -⟩ := hfr2
          have hLm2 := drop_lam F (j := j) HLm.out.2
          rw [HG.out] at hLm2
          have hwt := drop_wt F (j := j)
          rw [HG.out] at hwt
          have hwt2 : t'.size + kids.wt + 1 + next.wt ≤ F.wt := hwt
          have hw2 : t'.size ≤ 1048576 ∧ kids.wt ≤ 1048576 := by have := HW.out.2; omega
          have hbA := (Below.refl wr.heap.size wr).alloc (Nat.le_refl _) (.cells #[.int .i64 k', .string t', .int .i64 m', .int .i64 e', .slice a' kids.len c'] 33)
          have hboxA := hbox.below hbA
          have hkb := BoxN.new wr k' t' m' e' (.slice a' kids.len c')
          have hNA := hN.below hbA
          have hSA := hS.keep (KeepS.of_below hbA)
          have hBA := hB.trans (hbA.mono hB.size)
          have hWA := hWr.trans (Wr.of_below hbA hB.size)
          obtain ⟨WA, hWAe⟩ : ∃ WA, WA = wr.alloc (.cells #[.int .i64 k', .string t', .int .i64 m', .int .i64 e', .slice a' kids.len c'] 33) := ⟨_, rfl⟩
          rw [← hWAe] at hboxA hkb hNA hSA hBA hWA
          have HBx := fun (w' : World) (hb : Below WA.heap.size WA w') => scBelow_any Ls p k t m e (some ⟨b, o, none⟩) c F j w' (hSA.keep (KeepS.of_below hb)) (.inr ⟨b, o, rfl, Fo.from_grow (hBA.trans (hb.mono hBA.size)) F b o hf0⟩) hl hc (by have := HW.out.1; unfold maxLen; omega) HLm.out.1 hjl (by omega)
          have HCx := fun (w' : World) (p' : Option Addr) (hb : Below WA.heap.size WA w') (hR : ∃ Ls', ScIn w' p' Ls' ∧ ∀ x, scHas x Ls' = (scHas x Ls || hasT x (bnd k t F j))) => show Calls Try.prog 29 #[.pointer (some ⟨lb, 0, none⟩), nodeV k' t' m' e' a' kids.len c', .pointer p'] w' (fun r w2 => r = .returned (.tuple #[]) ∧ (BoxN w2 w.heap.size k t m e (.slice (some ⟨b, o, none⟩) F.len c) ∧ BoxN w2 wr.heap.size k' t' m' e' (.slice a' kids.len c')) ∧ (NL w0.heap.size w2 lb (fri1 k' t' kids (bound ++ bnd k t F j) nj) ∧ Wr w0.heap.size lb w w2 ∧ ScIn w2 p Ls ∧ Below w0.heap.size w0 w2)) by
            obtain ⟨Ls', hS', hH'⟩ := hR
            have hN' := hNA.below hb
            refine (ih k' t' m' e' a' c' kids (bound ++ bnd k t F j) Ls' p' nj lb w' (by omega) hkin hc1 hc3 hw2 hLm2.1 hLm2.2.1 (hBA.trans (hb.mono hBA.size)) hlb hN' ha (by omega) hS' (fun x => by rw [hH', HBd.out, hasT_append])).mono ?_
            rintro r w2 ⟨rfl, hN2, hW2⟩
            exact ⟨rfl, ⟨(hboxA.below hb).wr hW2 hN', (hkb.below hb).wr hW2 hN'⟩, hN2, (hWA.trans (Wr.of_below hb hBA.size)).trans hW2, (hSA.keep (KeepS.of_below hb)).keep (KeepS.of_wr hW2 hN'), (hBA.trans (hb.mono hBA.size)).trans hW2.1⟩
          have HQ2 : Hid (next.fri k t F bound (j + 1) (fri1 k' t' kids (bound ++ bnd k t F j) nj) = fri1 k t F bound ns) := HQ.out
          obtain ⟨hax2, hlx2⟩ := fri1_ok k' t' kids (bound ++ bnd k t F j) nj ha
          have HL : Hid (ascT (fri1 k' t' kids (bound ++ bnd k t F j) nj) ∧ (fri1 k' t' kids (bound ++ bnd k t F j) nj).length + next.size ≤ ns.length + 1 + F.size ∧ j + 1 + next.len = F.len ∧ j + 1 + next.size ≤ F.size) := ⟨hax2, by omega, by omega, by omega⟩
          have HN : Hid (F.drop (j + 1) = next) := Fo.drop_next HG.out
          obtain ⟨x0, x1, x2, x3, x4⟩ := hbox.cells
          clear ih HQ hN hS hB hWr hkin hLm2 hwt hwt2 hax2 hlx2 hNA hSA hBA hWA ha hj1 hj2 hq hsz2 hsz3 hln
          go_wp2_with fail
          rw [← hWAe]
          refine la6 (RB := fun p' w2 => ∃ Ls', ScIn w2 p' Ls' ∧ ∀ x, scHas x Ls' = (scHas x Ls || hasT x (bnd k t F j))) (RC := fun w2 => NL w0.heap.size w2 lb (fri1 k' t' kids (bound ++ bnd k t F j) nj) ∧ Wr w0.heap.size lb w w2 ∧ ScIn w2 p Ls ∧ Below w0.heap.size w0 w2) hboxA hkb (fun w' hb => (HBx w' hb).mono (by rintro r w2 ⟨⟨p', Ls', rfl, h1, h2⟩, h3⟩; exact ⟨p', rfl, ⟨Ls', h1, h2⟩, h3⟩)) HCx (fun _ d _ _ _ h => by cases d <;> exact h) ?_
          intro W1 v30 v31 v32 v33 v34 v35 v36 hbx1 hRC
          obtain ⟨hN1, hW1, hS1, hBB1⟩ := hRC
          clear HCx HBx hboxA hkb hWAe hbox x0 x1 x2 x3 x4 h1 h2 h3 h4 h5
          go_wp2_with fail
          go_round
          case rel => exact ⟨j + 1, next, fri1 k' t' kids (bound ++ bnd k t F j) nj, by go_num, HN.out, HL.out.2.2, HL.out.2.1, HL.out.1, HQ2.out, hN1, hbx1, hS1, hBB1, hW1⟩
          case measure => simp [intOf]; omega
    · clear hAd hp1 hp2
      obtain ⟨n0, hn0⟩ : ∃ n0, n0 = ns := ⟨_, rfl⟩
      have HF0 : Hid (F.fri k t F bound 0 n0 = fri1 k t F bound ns) := HP.out n0 (fun h => by first | (rw [hh] at h; cases h.2) | (rw [hk] at h; cases h.1)) (fun _ => hn0)
      have hax : ascT n0 := by rw [hn0]; exact hasc
      have hlx : n0.length ≤ ns.length + 1 := by rw [hn0]; omega
      have hNX : NL w0.heap.size (w.alloc (.cells #[.int .i64 k, .string t, .int .i64 m, .int .i64 e, .slice a F.len c] 33)) lb n0 := by rw [hn0]; exact hNL0
      clear hn0 hNL0 hb0 hk
      obtain ⟨wX, hwX⟩ : ∃ wX, wX = w.alloc (.cells #[.int .i64 k, .string t, .int .i64 m, .int .i64 e, .slice a F.len c] 33) := ⟨_, rfl⟩
      rw [← hwX] at hNX hSc1 hW0 f0 hB1 ⊢
      have hfX := f0
      have hScX := hSc1
      have hBX := hB1
      have hWX := hW0
      clear f0 hSc1 hB1 hW0 hwX
      clear x0 x1 x2 x3 x4
      obtain ⟨x0, x1, x2, x3, x4⟩ := hfX.cells
      go_loopw [25] (fun i wr => ∃ (j : Nat) (G : Fo) (nj : List ByteArray), i = .int .i64 j ∧ F.drop j = G ∧ (j + G.len = F.len ∧ j + G.size ≤ F.size) ∧ nj.length + G.size ≤ ns.length + 1 + F.size ∧ ascT nj ∧ G.fri k t F bound j nj = fri1 k t F bound ns ∧ NL w0.heap.size wr lb nj ∧ BoxN wr w.heap.size k t m e (.slice a F.len c) ∧ ScIn wr p Ls ∧ Below w0.heap.size w0 wr ∧ Wr w0.heap.size lb w wr) (fun i _ => F.len - (intOf i).toNat)
      case atStart => exact ⟨0, F, n0, rfl, drop_zero F, ⟨Nat.zero_add _, by omega⟩, by omega, hax, HF0.out, hNX, hfX, hScX, hBX, hWX⟩
      case round =>
        clear hNX hfX hScX hBX hWX hax x0 x1 x2 x3 x4
        obtain ⟨j, G, nj, rfl, hd, ⟨hj1, hj2⟩, hq, ha, hfr, hN, hbox, hS, hB, hWr⟩ := hrel
        have HQ : Hid (G.fri k t F bound j nj = fri1 k t F bound ns) := hfr
        have HG : Hid (F.drop j = G) := hd
        clear hfr hd
        cases G with
        | nil =>
          have hj' : j = F.len := by simpa [Fo.len] using hj1
          have hlt : ¬ (j : Int) < (F.len : Int) := by omega
          have HZ : Hid (NL w0.heap.size wr lb (fri1 k t F bound ns) ∧ Wr w0.heap.size lb w wr) := by
            have e : nj = fri1 k t F bound ns := HQ.out
            rw [← e]; exact ⟨hN, hWr⟩
          clear hN hWr hbox hS hB ih hj1 hj2
          go_wp2_with fail
          go_end0
          exact ⟨rfl, HZ.out⟩
        | cons k' t' m' e' a' c' kids next =>
          have hlt : (j : Int) < (F.len : Int) := by have : j + (next.len + 1) = F.len := hj1; omega
          have hjl : j < F.len := by omega
          have hsz2 : nj.length + (kids.size + 1 + next.size) ≤ ns.length + 1 + F.size := hq
          have hsz3 : j + (kids.size + 1 + next.size) ≤ F.size := hj2
          have hln : j + (next.len + 1) = F.len := hj1
          obtain ⟨b, o, rfl, hf0⟩ : ∃ b o, a = some ⟨b, o, none⟩ ∧ F.From w0 b o := by
            rcases HIn.out with h | ⟨b, o, e1, e2⟩
            · rw [h] at hjl; exact absurd hjl (Nat.not_lt_zero _)
            · exact ⟨b, o, e1, e2⟩
          have hfr0 := drop_from F (j := j) hf0
          rw [HG.out] at hfr0
          obtain ⟨-, hkin, hc1, hc3, ht', -⟩ := hfr0
          have hfr2 := drop_from F (j := j) (Fo.from_grow hB F b o hf0)
          rw [HG.out] at hfr2
          obtain ⟨⟨h1, h2, h3, h4, h5⟩, -⟩ := hfr2
          have hLm2 := drop_lam F (j := j) HLm.out.2
          rw [HG.out] at hLm2
          have hwt := drop_wt F (j := j)
          rw [HG.out] at hwt
          have hwt2 : t'.size + kids.wt + 1 + next.wt ≤ F.wt := hwt
          have hw2 : t'.size ≤ 1048576 ∧ kids.wt ≤ 1048576 := by have := HW.out.2; omega
          have hbA := (Below.refl wr.heap.size wr).alloc (Nat.le_refl _) (.cells #[.int .i64 k', .string t', .int .i64 m', .int .i64 e', .slice a' kids.len c'] 33)
          have hboxA := hbox.below hbA
          have hkb := BoxN.new wr k' t' m' e' (.slice a' kids.len c')
          have hNA := hN.below hbA
          have hSA := hS.keep (KeepS.of_below hbA)
          have hBA := hB.trans (hbA.mono hB.size)
          have hWA := hWr.trans (Wr.of_below hbA hB.size)
          obtain ⟨WA, hWAe⟩ : ∃ WA, WA = wr.alloc (.cells #[.int .i64 k', .string t', .int .i64 m', .int .i64 e', .slice a' kids.len c'] 33) := ⟨_, rfl⟩
          rw [← hWAe] at hboxA hkb hNA hSA hBA hWA
          have HBx := fun (w' : World) (hb : Below WA.heap.size WA w') => scBelow_any Ls p k t m e (some ⟨b, o, none⟩) c F j w' (hSA.keep (KeepS.of_below hb)) (.inr ⟨b, o, rfl, Fo.from_grow (hBA.trans (hb.mono hBA.size)) F b o hf0⟩) hl hc (by have := HW.out.1; unfold maxLen; omega) HLm.out.1 hjl (by omega)
          have HCx := fun (w' : World) (p' : Option Addr) (hb : Below WA.heap.size WA w') (hR : ∃ Ls', ScIn w' p' Ls' ∧ ∀ x, scHas x Ls' = (scHas x Ls || hasT x (bnd k t F j))) => show Calls Try.prog 29 #[.pointer (some ⟨lb, 0, none⟩), nodeV k' t' m' e' a' kids.len c', .pointer p'] w' (fun r w2 => r = .returned (.tuple #[]) ∧ (BoxN w2 w.heap.size k t m e (.slice (some ⟨b, o, none⟩) F.len c) ∧ BoxN w2 wr.heap.size k' t' m' e' (.slice a' kids.len c')) ∧ (NL w0.heap.size w2 lb (fri1 k' t' kids (bound ++ bnd k t F j) nj) ∧ Wr w0.heap.size lb w w2 ∧ ScIn w2 p Ls ∧ Below w0.heap.size w0 w2)) by
            obtain ⟨Ls', hS', hH'⟩ := hR
            have hN' := hNA.below hb
            refine (ih k' t' m' e' a' c' kids (bound ++ bnd k t F j) Ls' p' nj lb w' (by omega) hkin hc1 hc3 hw2 hLm2.1 hLm2.2.1 (hBA.trans (hb.mono hBA.size)) hlb hN' ha (by omega) hS' (fun x => by rw [hH', HBd.out, hasT_append])).mono ?_
            rintro r w2 ⟨rfl, hN2, hW2⟩
            exact ⟨rfl, ⟨(hboxA.below hb).wr hW2 hN', (hkb.below hb).wr hW2 hN'⟩, hN2, (hWA.trans (Wr.of_below hb hBA.size)).trans hW2, (hSA.keep (KeepS.of_below hb)).keep (KeepS.of_wr hW2 hN'), (hBA.trans (hb.mono hBA.size)).trans hW2.1⟩
          have HQ2 : Hid (next.fri k t F bound (j + 1) (fri1 k' t' kids (bound ++ bnd k t F j) nj) = fri1 k t F bound ns) := HQ.out
          obtain ⟨hax2, hlx2⟩ := fri1_ok k' t' kids (bound ++ bnd k t F j) nj ha
          have HL : Hid (ascT (fri1 k' t' kids (bound ++ bnd k t F j) nj) ∧ (fri1 k' t' kids (bound ++ bnd k t F j) nj).length + next.size ≤ ns.length + 1 + F.size ∧ j + 1 + next.len = F.len ∧ j + 1 + next.size ≤ F.size) := ⟨hax2, by omega, by omega, by omega⟩
          have HN : Hid (F.drop (j + 1) = next) := Fo.drop_next HG.out
          obtain ⟨x0, x1, x2, x3, x4⟩ := hbox.cells
          clear ih HQ hN hS hB hWr hkin hLm2 hwt hwt2 hax2 hlx2 hNA hSA hBA hWA ha hj1 hj2 hq hsz2 hsz3 hln
          go_wp2_with fail
          rw [← hWAe]
          refine la6 (RB := fun p' w2 => ∃ Ls', ScIn w2 p' Ls' ∧ ∀ x, scHas x Ls' = (scHas x Ls || hasT x (bnd k t F j))) (RC := fun w2 => NL w0.heap.size w2 lb (fri1 k' t' kids (bound ++ bnd k t F j) nj) ∧ Wr w0.heap.size lb w w2 ∧ ScIn w2 p Ls ∧ Below w0.heap.size w0 w2) hboxA hkb (fun w' hb => (HBx w' hb).mono (by rintro r w2 ⟨⟨p', Ls', rfl, h1, h2⟩, h3⟩; exact ⟨p', rfl, ⟨Ls', h1, h2⟩, h3⟩)) HCx (fun _ d _ _ _ h => by cases d <;> exact h) ?_
          intro W1 v30 v31 v32 v33 v34 v35 v36 hbx1 hRC
          obtain ⟨hN1, hW1, hS1, hBB1⟩ := hRC
          clear HCx HBx hboxA hkb hWAe hbox x0 x1 x2 x3 x4 h1 h2 h3 h4 h5
          go_wp2_with fail
          go_round
          case rel => exact ⟨j + 1, next, fri1 k' t' kids (bound ++ bnd k t F j) nj, by go_num, HN.out, HL.out.2.2, HL.out.2.1, HL.out.1, HQ2.out, hN1, hbx1, hS1, hBB1, hW1⟩
          case measure => simp [intOf]; omega
theorem iFrees_any (k : Int) (t : ByteArray) (m e : Int) (a : Option Addr) (c : Nat) (F : Fo) (w : World) (hF : F.size ≤ 1050000) (hin : F.In w a) (hl : F.len ≤ c) (hc : c ≤ maxLen) (ht : t.size ≤ maxLen) (hw : t.size ≤ 1048576 ∧ F.wt ≤ 1048576) :
    Calls Try.prog 10 #[nodeV k t m e a F.len c] w fun r w' => (∃ a' c', r = .returned (.slice a' (freesOf k t m e F).length c') ∧ OwnT w.heap.size w' a' c' (freesOf k t m e F)) ∧ Below w.heap.size w w' := by
  have hb0 : Below w.heap.size w (w.alloc (.cells #[.int .i64 k, .string t, .int .i64 m, .int .i64 e, .slice a F.len c] 33)) := (Below.refl _ _).alloc (Nat.le_refl _) _
  have f0 := BoxN.new w k t m e (.slice a F.len c)
  have HC := iTreeOk_any k t m e a c F _ (by omega) (hin.grow hb0) hl hc ht
  have HI : Hid (F.In w a) := hin
  have HW : Hid (t.size ≤ 1048576 ∧ F.wt ≤ 1048576) := hw
  clear hin hw
  obtain ⟨x0, x1, x2, x3, x4⟩ := f0.cells
  go_enter Try.func10, Try.ntmps10
  go_wp2_with fail
  refine HC.mono ?_
  rintro r w1 ⟨⟨q, rfl, hq⟩, hb1⟩
  have HQ : Hid (q = true ↔ (¬ k = 23 ∧ TreeGood k t m e F)) := hq
  have f1 := f0.below hb1
  have hB1 := hb0.trans (hb1.mono hb0.size)
  clear hq hb0 hb1 f0 HC x0 x1 x2 x3 x4
  obtain ⟨x0, x1, x2, x3, x4⟩ := f1.cells
  cases q
  · have HN : Hid (freesOf k t m e F = []) := freesOf_no fun h => by have := HQ.out.2 h; cases this
    clear HQ
    go_wp2_with fail
    go_ret
    rw [HN.out]
    exact ⟨⟨none, 0, rfl, .inl ⟨rfl, rfl, rfl⟩⟩, hB1⟩
  · have hgd := HQ.out.1 rfl
    obtain ⟨g1, g2, g3⟩ := good_lam hgd.2
    have HN : Hid (freesOf k t m e F = fri1 k t F [] []) := (freesOf_yes hgd).trans (fri1_frs1 k t F [] [] (good_nam hgd.2)).symm
    have hbl : Below w1.heap.size w1 (w1.alloc (.cells #[.slice none 0 0] 49)) := (Below.refl _ _).alloc (Nat.le_refl _) _
    have hrow0 : (w1.alloc (.cells #[.slice none 0 0] 49)).rowIs w1.heap.size 49 1 (fun _ => .slice none 0 0) := World.rowIs_alloc w1 #[.slice none 0 0] 49 _ (fun i hi => by
      have h0 : i = 0 := by simp at hi; exact hi
      subst h0; rfl)
    have hNL0 : NL w.heap.size (w1.alloc (.cells #[.slice none 0 0] 49)) w1.heap.size [] := ⟨none, 0, .inl ⟨rfl, rfl, rfl⟩, hrow0, fun e => by cases e⟩
    have hB2 := hB1.trans (hbl.mono hB1.size)
    have hCall := addFrees_all w (F.size + 1) k t m e a c F [] [] none [] w1.heap.size _ (Nat.lt_succ_self _) HI.out hl hc HW.out g1 g2 hB2 hB1.size hNL0 trivial (by show 0 + F.size + 1 ≤ 500000; omega) (show ScIn _ none [] from rfl) (fun _ => rfl)
    clear HQ hgd g1 g2 g3 hrow0 hNL0 hbl f1
    go_wp2_with fail
    refine hCall.mono ?_
    rintro r w3 ⟨rfl, hN3, hW3⟩
    have hB3 := hB2.trans hW3.1
    obtain ⟨a', c', hO, hrow, -⟩ := hN3
    have hcl := hrow.cell (i := 0) (by omega)
    have HO : Hid (OwnT w.heap.size w3 a' c' (fri1 k t F [] [])) := hO
    clear hCall hW3 hB2 hrow hO x0 x1 x2 x3 x4
    go_wp2_with fail
    go_ret
    rw [HN.out]
    exact ⟨⟨a', c', rfl, HO.out⟩, hB3⟩
end Go.Proofs.Ytbbbmmemfndnlaa
/- The law FnExactFrees walked. -/
namespace Go.Proofs.Ytbbbmmemfndnlaa
open Go.RowKit
attribute [local go_sem] cell_alloc_is frozen_alloc_is
theorem alike_sym : ∀ {G F : Fo}, F.alike G → G.alike F := by
  intro G
  induction G with
  | nil => intro F h; rw [Fo.alike_nil h]; trivial
  | cons k t m e a c kids next ih1 ih2 =>
    intro F h
    obtain ⟨a', c', kids', next', rfl, h1, h2⟩ := Fo.alike_cons h
    exact ⟨⟨rfl, rfl, rfl, rfl⟩, ih1 h1, ih2 h2⟩
theorem alike_trans : ∀ {G F E : Fo}, F.alike G → G.alike E → F.alike E := by
  intro G
  induction G with
  | nil => intro F E h1 h2; rw [Fo.alike_nil h1]; exact h2
  | cons k t m e a c kids next ih1 ih2 =>
    intro F E h1 h2
    obtain ⟨a', c', kids', next', rfl, h3, h4⟩ := Fo.alike_cons h1
    cases E with
    | nil => exact h2.elim
    | cons k2 t2 m2 e2 a2 c2 kids2 next2 =>
      obtain ⟨⟨rfl, rfl, rfl, rfl⟩, h5, h6⟩ := h2
      exact ⟨⟨rfl, rfl, rfl, rfl⟩, ih1 h3 h5, ih2 h4 h6⟩
/-- two boxes with a tree in each, and nothing old changed -/
abbrev HeldT (W0 : World) (b b2 : Nat) (k : Int) (t : ByteArray) (m e : Int) (v v2 : Value) (w : World) : Prop :=
  (w.cell? ⟨b, 0, none⟩ = some (.int .i64 k) ∧ w.cell? ⟨b, 1, none⟩ = some (.string t) ∧ w.cell? ⟨b, 2, none⟩ = some (.int .i64 m) ∧ w.cell? ⟨b, 3, none⟩ = some (.int .i64 e) ∧ w.cell? ⟨b, 4, none⟩ = some v) ∧
  (w.cell? ⟨b2, 0, none⟩ = some (.int .i64 k) ∧ w.cell? ⟨b2, 1, none⟩ = some (.string t) ∧ w.cell? ⟨b2, 2, none⟩ = some (.int .i64 m) ∧ w.cell? ⟨b2, 3, none⟩ = some (.int .i64 e) ∧ w.cell? ⟨b2, 4, none⟩ = some v2) ∧ Below W0.heap.size W0 w
theorem HeldT.grow {W0 w w' : World} {b b2 : Nat} {k : Int} {t : ByteArray} {m e : Int} {v v2 : Value} (h : HeldT W0 b b2 k t m e v v2 w) (hb : Below w.heap.size w w') : HeldT W0 b b2 k t m e v v2 w' := by
  obtain ⟨⟨x0, x1, x2, x3, x4⟩, ⟨y0, y1, y2, y3, y4⟩, h3⟩ := h
  have l1 := World.block_lt_of_cell? w _ x0
  have l2 := World.block_lt_of_cell? w _ y0
  exact ⟨⟨(hb.cell (p := ⟨b, 0, none⟩) l1).trans x0, (hb.cell (p := ⟨b, 1, none⟩) l1).trans x1, (hb.cell (p := ⟨b, 2, none⟩) l1).trans x2, (hb.cell (p := ⟨b, 3, none⟩) l1).trans x3, (hb.cell (p := ⟨b, 4, none⟩) l1).trans x4⟩,
    ⟨(hb.cell (p := ⟨b2, 0, none⟩) l2).trans y0, (hb.cell (p := ⟨b2, 1, none⟩) l2).trans y1, (hb.cell (p := ⟨b2, 2, none⟩) l2).trans y2, (hb.cell (p := ⟨b2, 3, none⟩) l2).trans y3, (hb.cell (p := ⟨b2, 4, none⟩) l2).trans y4⟩, h3.trans (hb.mono h3.size)⟩
theorem HeldT.drew {W0 w : World} {b b2 : Nat} {k : Int} {t : ByteArray} {m e : Int} {v v2 : Value} (h : HeldT W0 b b2 k t m e v v2 w) : HeldT W0 b b2 k t m e v v2 w.drew := h.grow ((Below.refl _ _).drew)
/-- two copies of one are alike -/
theorem alike_swap {E F G : Fo} (h : F.alike E) (k : G.alike E) : F.alike G := alike_trans h (alike_sym k)
theorem toNodeZ_any (k : Int) (t : ByteArray) (m e : Int) (a : Option Addr) (c : Nat) (F : Fo) (w : World) (h0 : F.size ≤ 2000000) (h1 : F.In w a) (h2 : F.len ≤ c) (h3 : c ≤ maxLen) (h4 : t.size ≤ maxLen) :
      Calls Try.prog 9 #[nodeV k t m e a F.len c] w fun r w' => (∃ (nb : Nat) (F' : Fo), r = .returned (nodeV k t m e (some ⟨nb, 0, none⟩) F'.len F'.len) ∧ w.heap.size ≤ nb ∧ F'.alike F ∧ F'.BlkZ (fun b => w.heap.size ≤ b) ∧ F'.From w' nb 0 ∧ Clean w.heap.size w') ∧ Below w.heap.size w w' :=
  toNodeZ_all (F.size + 1) k t m e a c F w (by omega) h0 h1 h2 h3 h4
/-- the lists lie in what there is -/
theorem Fo.blkZ_lt {w : World} {P : Nat → Prop} : ∀ {F : Fo} {b o : Nat}, F.From w b o → F.BlkZ P → F.BlkZ (fun x => P x ∧ x < w.heap.size) := by
  intro F
  induction F with
  | nil => intros; trivial
  | cons k t m e a c kids next ih1 ih2 =>
    rintro b o ⟨hc, hk, h3, h4, h5, hn⟩ ⟨z1, z2, z3⟩
    rcases hk with rfl | ⟨b', o', e1, e2⟩
    · exact ⟨.inl rfl, trivial, ih2 hn z3⟩
    · refine ⟨?_, ih1 e2 z2, ih2 hn z3⟩
      rcases z1 with z1 | ⟨b'', o'', e3, e4, e5⟩
      · exact .inl z1
      · rw [e1] at e3
        cases e3
        cases kids with
        | nil => exact .inl rfl
        | cons k2 t2 m2 e2' a2 c2 kids2 next2 => exact .inr ⟨b', o', e1, ⟨e4, World.block_lt_of_cell? w _ e2.1.1⟩, e5⟩
theorem alike_wtF : ∀ {F' F : Fo}, F'.alike F → F'.wt = F.wt := by
  intro F' F
  induction F generalizing F' with
  | nil => intro h; rw [Fo.alike_nil h]
  | cons k t m e a c kids next ih1 ih2 =>
    intro h
    obtain ⟨a', c', kids', next', rfl, h1, h2⟩ := Fo.alike_cons h
    show t.size + kids'.wt + 1 + next'.wt = t.size + kids.wt + 1 + next.wt
    rw [ih1 h1, ih2 h2]
theorem frees_size (k : Int) (t : ByteArray) (m e : Int) (F : Fo) : (freesOf k t m e F).length ≤ F.size + 1 := by
  by_cases h : ¬ k = 23 ∧ TreeGood k t m e F
  · rw [freesOf_yes h]
    have h1 := frs_len F k t F [] 0 []
    have h2 := put1_len t []
    simp only [List.length_nil] at h1 h2
    unfold frs1
    split <;> omega
  · rw [freesOf_no h]; exact Nat.zero_le _
theorem good_alike {F' F : Fo} (h : F'.alike F) (k : Int) (t : ByteArray) (m e : Int) : freesOf k t m e F' = freesOf k t m e F := by
  have hi : frs1 k t F' [] [] = frs1 k t F [] [] := by
    unfold frs1
    rw [alike_frs h k t F' F [] 0 [] h]
  by_cases hg : ¬ k = 23 ∧ TreeGood k t m e F
  · rw [freesOf_yes hg, freesOf_yes ((alike_good h k t m e).2 hg), hi]
  · rw [freesOf_no hg, freesOf_no (fun x => hg ((alike_good h k t m e).1 x))]
theorem OwnT.sin {B : Nat} {w : World} {a : Option Addr} {c : Nat} {ns : List ByteArray} (h : OwnT B w a c ns) (hs : ∀ s ∈ ns, s.size ≤ maxLen) : SIn w ns a ∧ (ns.length ≤ c ∧ c ≤ maxLen) := by
  have h' := h
  rcases h with ⟨rfl, rfl, rfl⟩ | ⟨g, f, rfl, h1, h2, h3, h4⟩
  · exact ⟨.inl rfl, Nat.le_refl _, Nat.zero_le _⟩
  · exact ⟨.inr ⟨g, 0, rfl, SFrom.of (fun i s hi => ⟨by rw [Nat.zero_add]; exact h'.cell rfl hi, hs s (List.mem_of_getElem? hi)⟩)⟩, h2⟩
theorem marks_mem (n k : Nat) : ∀ s ∈ marks k n, s.size ≤ maxLen := by
  induction n generalizing k with
  | zero => intro s h; cases h
  | succ n ih =>
    intro s h
    rcases List.mem_cons.1 h with rfl | h
    · have := mtext_size k
      unfold maxLen; omega
    · exact ih _ s h
set_option maxRecDepth 100000 in
set_option maxHeartbeats 2000000 in
theorem walk_FnExactFrees (k : Int) (t : ByteArray) (m e : Int) (a : Option Addr) (F : Fo) (c : Nat) (w : World) (hh : HeadOk k t m e) (hin : F.In w a) (hl : F.len ≤ c) (hc : c ≤ maxLen) (_hA : F.All HeadOk) :
    Calls Try.prog 3 #[nodeV k t m e a F.len c] w fun r w' => r = .returned (.bool true) ∧ Below w.heap.size w w' := by
  have ht := hh.2.1
  clear hh
  have hsw := F.size_wt
  have hB0 := (Below.refl _ w).alloc (Nat.le_refl _) (.cells #[.int .i64 k, .string t, .int .i64 m, .int .i64 e, .slice a F.len c] 26)
  have hf0 := Five.new w (.int .i64 k) (.string t) (.int .i64 m) (.int .i64 e) (.slice a F.len c) 26
  have HSz := fun W hW => szNode_any k t m e a c F W 1048576 hW hl hc ht (by omega)
  have HI : Hid (∀ W, Below w.heap.size w W → F.In W a) := fun W h => hin.grow h
  clear hin
  go_enter Try.func3, Try.ntmps3
  go_wp2_with fail
  refine (HSz _ (HI.out _ hB0)).mono ?_
  rintro r w1 ⟨rfl, hb1⟩
  have hB1 := hB0.trans (hb1.mono hB0.size)
  have hf1 := hf0.below hb1 hf0.lt
  obtain ⟨⟨x0, x1, x2, x3, x4⟩, _⟩ := id hf1
  clear hb1 hB0 HSz hf0
  by_cases hneed : t.size + F.wt ≤ 1048576
  · obtain ⟨d, hd⟩ : ∃ d : Nat, leftOf (t.size + F.wt) 1048576 = (d : Int) := ⟨1048576 - (t.size + F.wt), by unfold leftOf; rw [if_pos hneed]⟩
    rw [hd]
    clear hd
    have hd0 : ¬ (d : Int) < 0 := by omega
    have hsz2 : F.size ≤ 1048576 := by omega
    have hlm : F.len ≤ maxLen := Nat.le_trans hl hc
    have HC := fun W hW => toNodeZ_any k t m e a c F W (by omega) hW hl hc ht
    have HW : Hid (t.size ≤ 1048576 ∧ F.wt ≤ 1048576) := by unfold Hid; omega
    go_wp2_with fail
    refine (HC _ (HI.out _ hB1)).mono ?_
    rintro r w2 ⟨⟨nb1, F1, rfl, hn1, ha1, hk1, hF1, hcl1⟩, hb2⟩
    have hB2 := hB1.trans (hb2.mono hB1.size)
    have hf2 := hf1.below hb2 hf1.lt
    clear x0 x1 x2 x3 x4 hf1
    obtain ⟨⟨x0, x1, x2, x3, x4⟩, _⟩ := id hf2
    clear hb2 hB1 hk1 hcl1
    have hs1 : F1.size ≤ 1048576 := by rw [Fo.alike_size ha1]; exact hsz2
    have hl1 : F1.len ≤ maxLen := by rw [Fo.alike_len ha1]; exact hlm
    go_wp2_with fail
    refine (sFrees_any k t m e (some ⟨nb1, 0, none⟩) F1.len F1 _ (by omega) (.inr ⟨nb1, 0, rfl, hF1⟩) (Nat.le_refl _) (by omega) ht).mono ?_
    rw [good_alike ha1]
    rintro r w3 ⟨⟨a3, c3, rfl, hS3, hc3⟩, hb3⟩
    have hB3 := hB2.trans (hb3.mono hB2.size)
    have hf3 := hf2.below hb3 hf2.lt
    clear x0 x1 x2 x3 x4 hf2
    obtain ⟨⟨x0, x1, x2, x3, x4⟩, _⟩ := id hf3
    clear hb3 hB2 hF1 hn1
    generalize hns : freesOf k t m e F = ns at *
    have HNS : Hid (freesOf k t m e F = ns) := hns
    have hnl : ns.length ≤ 1048577 := by have := frees_size k t m e F; rw [hns] at this; omega
    clear hns
    have HS3 : Hid (SIn w3 ns a3 ∧ (ns.length ≤ c3 ∧ c3 ≤ maxLen)) := ⟨hS3, hc3⟩
    clear hS3
    go_wp2_with fail
    refine (HC _ (HI.out _ hB3)).mono ?_
    rintro r w4 ⟨⟨nb2, F2, rfl, hn2, ha2, hk2, hF2, hcl2⟩, hb4⟩
    have hbx := (Below.refl _ w4).alloc (Nat.le_refl _) (.cells #[.int .i64 k, .string t, .int .i64 m, .int .i64 e, .slice (some ⟨nb2, 0, none⟩) F2.len F2.len] 33)
    have hg0 := Five.new w4 (.int .i64 k) (.string t) (.int .i64 m) (.int .i64 e) (.slice (some ⟨nb2, 0, none⟩) F2.len F2.len) 33
    have hFU := Fo.from_grow hbx F2 _ _ hF2
    have hclU := hcl2.alloc #[.int .i64 k, .string t, .int .i64 m, .int .i64 e, .slice (some ⟨nb2, 0, none⟩) F2.len F2.len] 33
    have hzz := Fo.blkZ_lt hF2 hk2
    have HM : Hid (F2.BlkZ (fun x => w3.heap.size ≤ x ∧ x < w4.heap.size)) := hzz
    have hB4 : Below w3.heap.size w3 w4 := hb4
    have hBU := hB4.trans (hbx.mono hB4.size)
    have HSh : Hid (F2 = .nil ∨ ∃ b, some (⟨nb2, 0, none⟩ : Addr) = some ⟨b, 0, none⟩ ∧ (w3.heap.size ≤ b ∧ b < w4.heap.size) ∧ F2.Sh (w4.alloc (.cells #[.int .i64 k, .string t, .int .i64 m, .int .i64 e, .slice (some ⟨nb2, 0, none⟩) F2.len F2.len] 33)) b 0) := by
      cases F2 with
      | nil => exact .inl rfl
      | cons k2 t2 m2 e2 a2 c2 kids2 next2 => exact .inr ⟨nb2, rfl, ⟨hn2, World.block_lt_of_cell? w4 _ hF2.1.1⟩, Fo.sh_of hFU hzz hclU hn2 (fun x hx => hx.1)⟩
    obtain ⟨U, hU⟩ : ∃ U, U = w4.alloc (.cells #[.int .i64 k, .string t, .int .i64 m, .int .i64 e, .slice (some ⟨nb2, 0, none⟩) F2.len F2.len] 33) := ⟨_, rfl⟩
    have hUs : U.heap.size = w4.heap.size + 1 := by rw [hU]; simp
    rw [← hU] at hg0 hFU hBU HSh
    have hs2 : F2.size ≤ 1048576 := by rw [Fo.alike_size ha2]; exact hsz2
    have hl2 : F2.len ≤ maxLen := by rw [Fo.alike_len ha2]; exact hlm
    have hw2 : t.size ≤ 1048576 ∧ F2.wt ≤ 1048576 := by rw [alike_wtF ha2]; exact HW.out
    clear hclU hzz hcl2 hk2 hbx hF2 hb4 HW
    have hf4 := hf3.below hBU hf3.lt
    have HB3 : Hid (Below w.heap.size w w3) := hB3
    have l43 : w3.heap.size ≤ w4.heap.size := hB4.size
    clear x0 x1 x2 x3 x4
    obtain ⟨⟨x0, x1, x2, x3, x4⟩, _⟩ := id hf4
    have hI := iFrees_any k t m e (some ⟨nb2, 0, none⟩) F2.len F2 U (by omega) (.inr ⟨nb2, 0, rfl, hFU⟩) (Nat.le_refl _) (by omega) ht hw2
    rw [good_alike ha2, HNS.out] at hI
    have HFU : Hid (F2.From U nb2 0 ∧ F2.alike F) := ⟨hFU, ha2⟩
    have hg0' := hg0
    obtain ⟨⟨y0, y1, y2, y3, y4⟩, _⟩ := hg0'
    clear hFU ha2 hB3 hw2
    go_wp2_with fail
    rw [← hU]
    refine hI.mono ?_
    rintro r w5 ⟨⟨a5, c5, rfl, hO5⟩, hb5⟩
    have hB5 := hBU.trans (hb5.mono hBU.size)
    have hg5 := hg0.below hb5 hg0.lt
    have hf5 := hf3.below hB5 hf3.lt
    have HO5 : Hid (OwnT U.heap.size w5 a5 c5 ns) := hO5
    have HU5 : Hid (Below U.heap.size U w5) := hb5
    have hS5 := HS3.out.1.grow hB5
    obtain ⟨hO6, hc5⟩ := hO5.sin (HS3.out.1.lies.2)
    have hE := eqStringS_any ns ns a5 a3 c5 c3 w5 hO6 hS5 hc5.1 hc5.2 HS3.out.2.1
    rw [decide_eq_true rfl] at hE
    clear hU hO6 hO5 hS5 x0 x1 x2 x3 x4 y0 y1 y2 y3 y4 hI hg0 hf4
    obtain ⟨⟨x0, x1, x2, x3, x4⟩, _⟩ := id hf5
    obtain ⟨⟨y0, y1, y2, y3, y4⟩, _⟩ := id hg5
    go_wp2_with fail
    refine hE.mono ?_
    rintro r w6 ⟨rfl, hb6⟩
    have hB6 := hB5.trans (hb6.mono hB5.size)
    have HU6 : Hid (Below U.heap.size U w6) := HU5.out.trans (hb6.mono HU5.out.size)
    have HO6 : Hid (OwnT U.heap.size w6 a5 c5 ns) := HO5.out.of_block fun g hg => hb6.block g (HO5.out.lt hg).2
    have hg6 := hg5.below hb6 hg5.lt
    have hf6 := hf3.below hB6 hf3.lt
    clear x0 x1 x2 x3 x4 y0 y1 y2 y3 y4 hf5 hg5 HU5 HO5 hE hB5 hb6 hb5 hBU
    obtain ⟨⟨x0, x1, x2, x3, x4⟩, _⟩ := id hf6
    obtain ⟨⟨y0, y1, y2, y3, y4⟩, _⟩ := id hg6
    have hS0 : HeldT w6 w.heap.size w4.heap.size k t m e (.slice a F.len c) (.slice (some ⟨nb2, 0, none⟩) F2.len F2.len) w6 := ⟨⟨x0, x1, x2, x3, x4⟩, ⟨y0, y1, y2, y3, y4⟩, Below.refl _ _⟩
    have HB6 : Hid (Below w.heap.size w w6 ∧ Below w3.heap.size w3 w6) := ⟨HB3.out.trans (hB6.mono HB3.out.size), hB6⟩
    clear x0 x1 x2 x3 x4 y0 y1 y2 y3 y4 hf6 hg6 hB6
    go_wp2_with fail
    refine wp_region_held_drew (S := fun w' => HeldT w6 w.heap.size w4.heap.size k t m e (.slice a F.len c) (.slice (some ⟨nb2, 0, none⟩) F2.len F2.len) w') (by kernel_rfl) (HeldT.drew hS0) (fun hHeld => ?_)
    refine wpAnyH_take (i := 0) (v := nodeV k t m e (some ⟨nb2, 0, none⟩) F2.len F2.len) rfl (by kernel_rfl) (by kernel_rfl) (by kernel_rfl) (fun _ _ _ h => h) (Or.inl ⟨by rfl, ?_⟩) (by assumption) ?_
    · intro w hSw
      (try dsimp only at hSw)
      go_simp
    (try simp only [Act.put, List.getElem_toArray, List.getElem_cons_zero, List.setIfInBounds_toArray, List.set_cons_zero, List.set_cons_succ])
    refine wpAnyH_take (i := 1) (v := nodeV k t m e a F.len c) rfl (by kernel_rfl) (by kernel_rfl) (by kernel_rfl) (fun _ _ _ h => h) (Or.inl ⟨by rfl, ?_⟩) (by assumption) ?_
    · intro w hSw
      (try dsimp only at hSw)
      go_simp
    (try simp only [Act.put, List.getElem_toArray, List.getElem_cons_zero, List.getElem_cons_succ, List.setIfInBounds_toArray, List.set_cons_zero, List.set_cons_succ])
    refine wpAnyH_ready (rs := [2]) (by kernel_rfl) (by simp) ?_
    refine AllReadyH.cons rfl (fun K hK => ?_) AllReadyH.nil
    go_simp
    refine (HC _ (HI.out _ (HB6.out.1.trans ((by assumption : HeldT w6 w.heap.size w4.heap.size k t m e (.slice a F.len c) (.slice (some ⟨nb2, 0, none⟩) F2.len F2.len) _).2.2.mono HB6.out.1.size)))).mono ?_
    rintro r w7 ⟨⟨nb3, F3, rfl, hn3, ha3, hk3, hF3, hcl3⟩, hb7⟩
    have hl3 : F3.len ≤ maxLen := by rw [Fo.alike_len ha3]; exact hlm
    have ha23 := alike_swap HFU.out.2 ha3
    have hS := HeldT.grow (by assumption) hb7
    clear hcl3 hk3
    go_wp2_with fail
    refine hK.out _ _ hS (fun hHeld => ?_)
    clear hK K hS
    refine wpAnyH_ready (rs := [3]) (by kernel_rfl) (by simp) ?_
    refine AllReadyH.cons rfl (fun K hK => ?_) AllReadyH.nil
    go_simp
    refine (eqNode_all (F2.size + 1) k t m e (some ⟨nb2, 0, none⟩) (some ⟨nb3, 0, none⟩) F2.len F3.len F2 F3 _ (by omega) ha23 (.inr ⟨nb2, 0, rfl, Fo.from_grow (HU6.out.trans (hHeld.2.2.mono HU6.out.size)) F2 _ _ HFU.out.1⟩) (.inr ⟨nb3, 0, rfl, hF3⟩) (Nat.le_refl _) (by omega) (Nat.le_refl _) (by omega)).mono ?_
    rintro r w8 ⟨rfl, hb8⟩
    have hS := HeldT.grow (by assumption) hb8
    go_wp2_with fail
    refine hK.out _ _ hS (fun hHeld => ?_)
    clear hK K hS
    refine wpAnyH_take (i := 4) (v := .bool false) rfl (by kernel_rfl) (by kernel_rfl) (by kernel_rfl) (fun _ _ _ h => h) (Or.inl ⟨by rfl, ?_⟩) (by assumption) ?_
    · intro w hSw
      (try dsimp only at hSw)
      go_simp
    (try simp only [Act.put, List.getElem_toArray, List.getElem_cons_zero, List.getElem_cons_succ, List.setIfInBounds_toArray, List.set_cons_zero, List.set_cons_succ])
    refine wpAnyH_done (by kernel_rfl) ?_ _
    have hB8 := hHeld.2.2
    have HB8 : Hid (Below w.heap.size w w8 ∧ Below w3.heap.size w3 w8) := ⟨HB6.out.1.trans (hB8.mono HB6.out.1.size), HB6.out.2.trans (hB8.mono HB6.out.2.size)⟩
    have HU8 : Hid (Below U.heap.size U w8) := HU6.out.trans (hB8.mono HU6.out.size)
    have HO8 : Hid (OwnT U.heap.size w8 a5 c5 ns) := HO6.out.of_block fun g hg => hB8.block g (HO6.out.lt hg).2
    obtain ⟨⟨x0, x1, x2, x3, x4⟩, ⟨y0, y1, y2, y3, y4⟩, -⟩ := hHeld
    have HS8 : Hid (F2 = .nil ∨ ∃ b, some (⟨nb2, 0, none⟩ : Addr) = some ⟨b, 0, none⟩ ∧ (w3.heap.size ≤ b ∧ b < w4.heap.size) ∧ F2.Sh w8 b 0) := by
      rcases HSh.out with h | ⟨b, e1, e2, e3⟩
      · exact .inl h
      · exact .inr ⟨b, e1, e2, (Mk.of_below (B := w3.heap.size) (P := fun _ => True) HU8.out (by omega)).sh e3 rfl⟩
    clear hb7 hb8 hF3 hn3 ha3 hl3 ha23 hB8 HU6 HO6 HB6 hS0 HSh HFU
    (try clear hHeld)
    go_wp2_with fail
    refine (markNode_any k t m e w3.heap.size (fun x => w3.heap.size ≤ x ∧ x < w4.heap.size) (some ⟨nb2, 0, none⟩) F2.len 1 F2 w8 HS8.out HM.out (fun x hx => hx.1) HB8.out.2.size (Nat.le_refl _) (by omega) (by omega)).mono ?_
    rintro r w9 ⟨rfl, hm9⟩
    have hB9 : Below w3.heap.size w3 w9 := HB8.out.2.trans hm9.1
    have hO9 : OwnT U.heap.size w9 a5 c5 ns := HO8.out.of_block fun g hg => hm9.2.1 g (HO8.out.lt hg).2 (fun hx => by have := (HO8.out.lt hg).1; omega)
    obtain ⟨hO6, hc5⟩ := hO9.sin (HS3.out.1.lies.2)
    have hE := eqStringS_any ns ns a5 a3 c5 c3 w9 hO6 (HS3.out.1.grow hB9) hc5.1 hc5.2 HS3.out.2.1
    rw [decide_eq_true rfl] at hE
    have hf9 := hf3.below hB9 hf3.lt
    have HO9 : Hid (OwnT U.heap.size w9 a5 c5 ns) := hO9
    have hU9 : U.heap.size ≤ w9.heap.size := Nat.le_trans HU8.out.size hm9.1.size
    obtain ⟨K, hK⟩ : ∃ K, K = 1 + 4 * F2.size := ⟨_, rfl⟩
    rw [← hK]
    have hK0 : ¬ (K : Int) < 0 := by omega
    clear hK HS8 HM HU8 HO8 HB8 hm9 hO9 hO6 x0 x1 x2 x3 x4 y0 y1 y2 y3 y4
    go_wp2_with fail
    refine hE.mono ?_
    rintro r w10 ⟨rfl, hb10⟩
    have hB10 := hB9.trans (hb10.mono hB9.size)
    have hO10 : OwnT U.heap.size w10 a5 c5 ns := HO9.out.of_block fun g hg => hb10.block g (HO9.out.lt hg).2
    have hU10 : U.heap.size ≤ w10.heap.size := Nat.le_trans hU9 hb10.size
    have hMS := markStringS_any (k := 1) hO10 hU10 (by omega) (by omega)
    clear HO9 hb10 hB9 hf9 hU9 hE hO10
    go_wp2_with fail
    refine hMS.mono ?_
    rintro r w11 ⟨rfl, hO11, hb11, -⟩
    have hB11 : Below w3.heap.size w3 w11 := hB10.trans (hb11.mono (by omega))
    have hU11 : U.heap.size ≤ w11.heap.size := Nat.le_trans hU10 hb11.size
    have hO11s := hO11.sin (marks_mem _ _)
    rw [marks_len] at hO11s
    have hH := heldStringS_any ns.length a5 c5 1 w11 hO11s.1 hO11s.2 (by omega) (by omega)
    have HO11 : Hid (OwnT U.heap.size w11 a5 c5 (marks 1 ns.length)) := hO11
    obtain ⟨Q, hQ⟩ : ∃ Q, Q = 1 + ns.length := ⟨_, rfl⟩
    rw [← hQ] at hH ⊢
    have hQ0 : ¬ (Q : Int) < 0 := by omega
    clear hO11s hO11 hb11 hMS hB10 hU10
    go_wp2_with fail
    refine hH.mono ?_
    rintro r w12 ⟨rfl, hb12⟩
    have hB12 := hB11.trans (hb12.mono hB11.size)
    have hU12 : U.heap.size ≤ w12.heap.size := Nat.le_trans hU11 hb12.size
    have HO12 : Hid (OwnT U.heap.size w12 a5 c5 (marks 1 ns.length)) := HO11.out.of_block fun g hg => hb12.block g (HO11.out.lt hg).2
    have hf12 := hf3.below hB12 hf3.lt
    obtain ⟨⟨x0, x1, x2, x3, x4⟩, _⟩ := id hf12
    clear hb12 hH HO11 hB11 hU11
    go_wp2_with fail
    refine (HC _ (HI.out _ (HB3.out.trans (hB12.mono HB3.out.size)))).mono ?_
    rintro r w13 ⟨⟨nb4, F4, rfl, hn4, ha4, hk4, hF4, hcl4⟩, hb13⟩
    have hB13 := hB12.trans (hb13.mono hB12.size)
    have HO13 : Hid (OwnT U.heap.size w13 a5 c5 (marks 1 ns.length)) := HO12.out.of_block fun g hg => hb13.block g (HO12.out.lt hg).2
    have hs4 : F4.size ≤ 1048576 := by rw [Fo.alike_size ha4]; exact hsz2
    have hl4 : F4.len ≤ maxLen := by rw [Fo.alike_len ha4]; exact hlm
    have hI := iFrees_any k t m e (some ⟨nb4, 0, none⟩) F4.len F4 w13 (by omega) (.inr ⟨nb4, 0, rfl, hF4⟩) (Nat.le_refl _) (by omega) ht (by rw [alike_wtF ha4]; omega)
    rw [good_alike ha4, HNS.out] at hI
    clear x0 x1 x2 x3 x4 hf12 hcl4 hk4 hF4 hn4 ha4 hb13 HO12 hB12 hU12
    go_wp2_with fail
    refine hI.mono ?_
    rintro r w14 ⟨⟨a14, c14, rfl, hO14⟩, hb14⟩
    have hB14 := hB13.trans (hb14.mono hB13.size)
    have HO14 : Hid (OwnT U.heap.size w14 a5 c5 (marks 1 ns.length)) := HO13.out.of_block fun g hg => hb14.block g (HO13.out.lt hg).2
    obtain ⟨hO15, hc14⟩ := hO14.sin (HS3.out.1.lies.2)
    have hE := eqStringS_any ns ns a14 a3 c14 c3 w14 hO15 (HS3.out.1.grow hB14) hc14.1 hc14.2 HS3.out.2.1
    rw [decide_eq_true rfl] at hE
    clear HO13 hb14 hO14 hO15 hI hB13
    go_wp2_with fail
    refine hE.mono ?_
    rintro r w15 ⟨rfl, hb15⟩
    have hB15 := hB14.trans (hb15.mono hB14.size)
    have hO15 := OwnT.sin (HO14.out.of_block fun g hg => hb15.block g (HO14.out.lt hg).2) (marks_mem _ _)
    rw [marks_len] at hO15
    have hH := heldStringS_any ns.length a5 c5 1 w15 hO15.1 hO15.2 (by omega) (by omega)
    rw [← hQ] at hH
    clear HO14 hb15 hO15 hB14 hE
    go_wp2_with fail
    refine hH.mono ?_
    rintro r w16 ⟨rfl, hb16⟩
    have HF : Hid (Below w.heap.size w w16) := HB3.out.trans ((hB15.trans (hb16.mono hB15.size)).mono HB3.out.size)
    clear hb16 hB15 hH
    go_wp2_with fail
    go_ret
    exact ⟨rfl, HF.out⟩
  · have hd : leftOf (t.size + F.wt) 1048576 = -1 := by unfold leftOf; rw [if_neg hneed]
    rw [hd]
    go_wp2_with fail
    go_ret
    exact ⟨rfl, hB1⟩
end Go.Proofs.Ytbbbmmemfndnlaa
