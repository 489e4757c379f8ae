/- Contracts over values: the laws' own measure. -/
import Derived.Test.YtohldacplapjkaaVb
namespace Go.Proofs.Ytohldacplapjkaa
open Go.RowKit
set_option maxHeartbeats 1000000 in
theorem szValueS_step (N : Nat) (H : ∀ (h : Hd) (a : Option Addr) (c : Nat) (F : Vo) (w : World) (l : Nat), F.size < N → F.In w a → F.len ≤ c → c ≤ maxLen → h.In w → l ≤ 1048576 →
      Calls Try.prog 6 #[valV h a F.len c, .int .i64 l] w fun e w' => e = .returned (.int .i64 (leftOf (h.t.size + F.wt + sWt h.ns) l)) ∧ Below w.heap.size w w') :
    ∀ (a : Option Addr) (c : Nat) (F : Vo) (w : World) (l : Nat), F.size ≤ N → F.In w a → F.len ≤ c → c ≤ maxLen → l ≤ 1048576 →
      Calls Try.prog 15 #[.slice a F.len c, .int .i64 l] w fun e w' => e = .returned (.int .i64 (leftOf F.wt l)) ∧ Below w.heap.size w w' := by
  intro a c F w l hF hin hl hc hl2
  unfold maxLen at hc
  have hlw := F.len_wt
  by_cases h0 : F.len ≤ l
  · have h0' : ¬ (l : Int) - (F.len : Int) < 0 := by omega
    go_enter Try.func15, Try.ntmps15
    go_wp2_with fail
    go_loopw [1, 5] (fun o i wr => ∃ (j d : Nat) (G : Vo), i = .int .i64 j ∧ o = .int .i64 d ∧ j + G.len = F.len ∧ d + F.wt + G.len = l + G.wt ∧ d ≤ l ∧ G.size ≤ F.size ∧ (G = .nil ∨ ∃ b o', a = some ⟨b, o', none⟩ ∧ G.From wr b (o' + j * 6)) ∧ Below w.heap.size w wr) (fun _ i _ => F.len - (intOf i).toNat)
    case atStart =>
      refine ⟨0, l - F.len, F, rfl, by congr 1; omega, by omega, by omega, by omega, Nat.le_refl _, ?_, Below.refl _ _⟩
      rcases hin with h | ⟨b, o', e1, e2⟩
      · exact .inl h
      · exact .inr ⟨b, o', e1, by simpa using e2⟩
    case round =>
      obtain ⟨j, d, G, rfl, rfl, hj, hs, hs1, hs2, hG, hb⟩ := hrel
      cases G with
      | nil =>
        have hj' : j = F.len := by simpa [Vo.len] using hj
        have hs' : d + F.wt = l := by simpa [Vo.len, Vo.wt] using hs
        have HL : Hid (leftOf F.wt l = (d : Int)) := by unfold Hid leftOf; rw [if_pos (by omega)]; congr 1; omega
        subst hj'
        clear hG hj hs hs' H
        go_wp2_with fail
        go_ret
        exact ⟨by rw [HL.out]; rfl, hb⟩
      | cons h a' c' kids next =>
        rcases hG with hG | ⟨b, o', rfl, ⟨h1, h2, h3, h4, h5, h6⟩, hk, ⟨hc1, hc2⟩, hh, hn⟩
        · cases hG
        · have hln : j + (next.len + 1) = F.len := hj
          have hlt : (j : Int) < (F.len : Int) := by omega
          have hjl : j < F.len := by omega
          have hsz : kids.size + 1 + next.size ≤ F.size := hs2
          have hwt : d + F.wt + (next.len + 1) = l + (h.t.size + kids.wt + sWt h.ns + 1 + next.wt) := hs
          have hnw := next.len_wt
          clear hj hs hin hs2
          go_wp2_with fail
          refine (H h a' c' kids wr d (by omega) hk hc1 hc2 hh (by omega)).mono ?_
          rintro e w1 ⟨rfl, hb1⟩
          have hn1 := Vo.from_grow hb1 next b _ hn
          have hb2 := hb.trans (hb1.mono hb.size)
          clear h1 h2 h3 h4 h5 h6 hk hn hb1 hb H hh
          by_cases hd : h.t.size + kids.wt + sWt h.ns ≤ d
          · have HL : Hid (leftOf (h.t.size + kids.wt + sWt h.ns) d = ((d - (h.t.size + kids.wt + sWt h.ns) : Nat) : Int)) := by unfold Hid leftOf; rw [if_pos hd]
            rw [HL.out]
            obtain ⟨d', hd'⟩ : ∃ d', d' = d - (h.t.size + kids.wt + sWt h.ns) := ⟨_, rfl⟩
            rw [← hd']
            have hd2 : d' + (h.t.size + kids.wt + sWt h.ns) = d := by omega
            clear hd' HL hd
            have hd0 : ¬ (d' : Int) < 0 := by omega
            go_wp2_with fail
            go_round
            case rel =>
              refine ⟨j + 1, d', next, by go_num, rfl, by omega, by omega, by omega, by omega, .inr ⟨b, o', rfl, ?_⟩, hb2⟩
              rw [show o' + (j + 1) * 6 = o' + j * 6 + 6 by omega]; exact hn1
            case measure => simp [intOf]; omega
          · have HL : Hid (leftOf (h.t.size + kids.wt + sWt h.ns) d = -1) := by unfold Hid leftOf; rw [if_neg hd]
            have HR : Hid (leftOf F.wt l = -1) := by unfold Hid leftOf; rw [if_neg (by omega)]
            rw [HL.out]
            clear HL hd
            go_wp2_with fail
            go_ret
            exact ⟨by rw [HR.out]; rfl, hb2⟩
  · have h0' : (l : Int) - (F.len : Int) < 0 := by omega
    have HL : Hid (leftOf F.wt l = -1) := by unfold Hid leftOf; rw [if_neg (by omega)]
    rw [HL.out]
    clear H
    go_enter Try.func15, Try.ntmps15
    go_wp2_with fail
    go_ret
    exact ⟨rfl, Below.refl _ _⟩
theorem left_neg {n l : Nat} (h : ¬ n ≤ l) : leftOf n l = -1 := by unfold leftOf; rw [if_neg h]
theorem left_pos {n l : Nat} (h : n ≤ l) : leftOf n l = ((l - n : Nat) : Int) := by unfold leftOf; rw [if_pos h]
set_option maxHeartbeats 1000000 in
theorem szValue_step (N : Nat) (H : ∀ (a : Option Addr) (c : Nat) (F : Vo) (w : World) (l : Nat), F.size ≤ N → F.In w a → F.len ≤ c → c ≤ maxLen → l ≤ 1048576 →
      Calls Try.prog 15 #[.slice a F.len c, .int .i64 l] w fun e w' => e = .returned (.int .i64 (leftOf F.wt l)) ∧ Below w.heap.size w w') :
    ∀ (h : Hd) (a : Option Addr) (c : Nat) (F : Vo) (w : World) (l : Nat), F.size ≤ N → F.In w a → F.len ≤ c → c ≤ maxLen → h.In w → l ≤ 1048576 →
      Calls Try.prog 6 #[valV h a F.len c, .int .i64 l] w fun e w' => e = .returned (.int .i64 (leftOf (h.t.size + F.wt + sWt h.ns) l)) ∧ Below w.heap.size w w' := by
  intro h a c F w l hF hin hl hc hh hl2
  have hcc := hc
  have ht := hh.2.2
  unfold maxLen at hc ht
  by_cases h0 : h.t.size ≤ l
  · have h0' : ¬ (l : Int) - (h.t.size : Int) < 0 := by omega
    go_enter Try.func6, Try.ntmps6
    go_wp2_with fail
    rw [show (l : Int) - (h.t.size : Int) = ((l - h.t.size : Nat) : Int) by omega]
    have hb0 : Below w.heap.size w (w.alloc (.cells #[.int .i64 h.k, .int .i64 h.m, .int .i64 h.e, .string h.t, .slice a F.len c, .slice h.na h.ns.length h.nc] 27)) := (Below.refl _ w).alloc (Nat.le_refl _) _
    have hr0 := Row.new w [.int .i64 h.k, .int .i64 h.m, .int .i64 h.e, .string h.t, .slice a F.len c, .slice h.na h.ns.length h.nc] 27
    refine (H a c F _ (l - h.t.size) hF (hin.grow hb0) hl hcc (by omega)).mono ?_
    rintro e w1 ⟨rfl, hb1⟩
    have hb2 : Below w.heap.size w w1 := hb0.trans (hb1.mono (by simp))
    have x5 := (hr0.below hb1 (by simp) 5 _ rfl).1
    have hh1 := hh.grow hb2
    clear hb0 hb1 H hin hr0 hh
    by_cases hd : h.t.size + F.wt ≤ l
    · have HL : Hid (leftOf F.wt (l - h.t.size) = ((l - (h.t.size + F.wt) : Nat) : Int)) := by unfold Hid; rw [left_pos (by omega)]; congr 1; omega
      rw [HL.out]
      obtain ⟨d', hd'⟩ : ∃ d', d' = l - (h.t.size + F.wt) := ⟨_, rfl⟩
      rw [← hd']
      have hd0 : ¬ (d' : Int) < 0 := by omega
      have hd1 : d' ≤ 1048576 := by omega
      have HD : Hid (d' + (h.t.size + F.wt) = l) := by unfold Hid; omega
      clear HL hd' hd
      go_wp2_with fail
      refine (szStringS_any h.ns h.na h.nc w1 d' hh1.1 hh1.2.1.1 hh1.2.1.2 hd1).mono ?_
      rintro e w2 ⟨rfl, hb3⟩
      have hb4 := hb2.trans (hb3.mono hb2.size)
      clear hb3 hb2 x5 hh1
      by_cases hd3 : sWt h.ns ≤ d'
      · have HL : Hid (leftOf (sWt h.ns) d' = ((d' - sWt h.ns : Nat) : Int)) := left_pos hd3
        have HR : Hid (leftOf (h.t.size + F.wt + sWt h.ns) l = ((d' - sWt h.ns : Nat) : Int)) := by unfold Hid; have := HD.out; rw [left_pos (by omega)]; congr 1; omega
        rw [HL.out]
        obtain ⟨d2, hd2⟩ : ∃ d2, d2 = d' - sWt h.ns := ⟨_, rfl⟩
        rw [← hd2] at HR ⊢
        have hd20 : ¬ (d2 : Int) < 0 := by omega
        clear HL hd3 hd2
        go_wp2_with fail
        go_ret
        exact ⟨by rw [HR.out]; rfl, hb4⟩
      · have HL : Hid (leftOf (sWt h.ns) d' = -1) := left_neg hd3
        have HR : Hid (leftOf (h.t.size + F.wt + sWt h.ns) l = -1) := left_neg (by have := HD.out; omega)
        rw [HL.out]
        clear HL hd3
        go_wp2_with fail
        go_ret
        exact ⟨by rw [HR.out]; rfl, hb4⟩
    · have HL : Hid (leftOf F.wt (l - h.t.size) = -1) := left_neg (by omega)
      have HR : Hid (leftOf (h.t.size + F.wt + sWt h.ns) l = -1) := left_neg (by omega)
      rw [HL.out]
      clear HL hd
      go_wp2_with fail
      go_ret
      exact ⟨by rw [HR.out]; rfl, hb2⟩
  · have h0' : (l : Int) - (h.t.size : Int) < 0 := by omega
    have HL : Hid (leftOf (h.t.size + F.wt + sWt h.ns) l = -1) := left_neg (by omega)
    rw [HL.out]
    clear H
    go_enter Try.func6, Try.ntmps6
    go_wp2_with fail
    go_ret
    exact ⟨rfl, (Below.refl _ _).alloc (Nat.le_refl _) _⟩
theorem szValue_all (N : Nat) : ∀ (h : Hd) (a : Option Addr) (c : Nat) (F : Vo) (w : World) (l : Nat), F.size < N → F.In w a → F.len ≤ c → c ≤ maxLen → h.In w → l ≤ 1048576 →
      Calls Try.prog 6 #[valV h a F.len c, .int .i64 l] w fun e w' => e = .returned (.int .i64 (leftOf (h.t.size + F.wt + sWt h.ns) l)) ∧ Below w.heap.size w w' := by
  induction N with
  | zero => intro h a c F w l hF; omega
  | succ N ih => exact fun h a c F w l hF => szValue_step N (szValueS_step N ih) h a c F w l (by omega)
/-- the laws' measure of a value -/
theorem szValue_any (h : Hd) (a : Option Addr) (c : Nat) (F : Vo) (w : World) (l : Nat) (h1 : F.In w a) (h2 : F.len ≤ c) (h3 : c ≤ maxLen) (h4 : h.In w) (h5 : l ≤ 1048576) :
      Calls Try.prog 6 #[valV h a F.len c, .int .i64 l] w fun e w' => e = .returned (.int .i64 (leftOf (h.t.size + F.wt + sWt h.ns) l)) ∧ Below w.heap.size w w' :=
  szValue_all (F.size + 1) h a c F w l (by omega) h1 h2 h3 h4 h5
end Go.Proofs.Ytohldacplapjkaa
