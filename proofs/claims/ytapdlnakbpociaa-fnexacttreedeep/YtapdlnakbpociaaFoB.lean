/- Contracts over trees: the laws' own measure. -/
import Derived.Test.YtapdlnakbpociaaFo
namespace Go.Proofs.Ytapdlnakbpociaa
open Go.RowKit

set_option maxHeartbeats 1000000 in
theorem szNodeS_step (N : Nat) (H : ∀ (k : Int) (t : ByteArray) (m e : Int) (a : Option Addr) (c : Nat) (F : Fo) (w : World) (l : Nat), F.size < N → F.In w a → F.len ≤ c → c ≤ maxLen → t.size ≤ maxLen → l ≤ 1048576 →
      Calls Try.prog 8 #[nodeV k t m e a F.len c, .int .i64 l] w fun e w' => e = .returned (.int .i64 (leftOf (t.size + F.wt) l)) ∧ Below w.heap.size w w') :
    ∀ (a : Option Addr) (c : Nat) (F : Fo) (w : World) (l : Nat), F.size ≤ N → F.In w a → F.len ≤ c → c ≤ maxLen → l ≤ 1048576 →
      Calls Try.prog 26 #[.slice a F.len c, .int .i64 l] w fun e w' => e = .returned (.int .i64 (leftOf F.wt l)) ∧ Below w.heap.size w w' := by
  intro a c F w l hF hin hl hc hl2
  unfold maxLen at hc
  have hlw := F.len_wt
  by_cases h0 : F.len ≤ l
  · have h0' : ¬ (l : Int) - (F.len : Int) < 0 := by omega
    go_enter Try.func26, Try.ntmps26
    go_wp2_with fail
    go_loopw [1, 5] (fun o i wr => ∃ (j d : Nat) (G : Fo), i = .int .i64 j ∧ o = .int .i64 d ∧ j + G.len = F.len ∧ d + F.wt + G.len = l + G.wt ∧ d ≤ l ∧ G.size ≤ F.size ∧ (G = .nil ∨ ∃ b o', a = some ⟨b, o', none⟩ ∧ G.From wr b (o' + j * 5)) ∧ Below w.heap.size w wr) (fun _ i _ => F.len - (intOf i).toNat)
    case atStart =>
      refine ⟨0, l - F.len, F, rfl, by congr 1; omega, by omega, by omega, by omega, Nat.le_refl _, ?_, Below.refl _ _⟩
      rcases hin with h | ⟨b, o', e1, e2⟩
      · exact .inl h
      · exact .inr ⟨b, o', e1, by simpa using e2⟩
    case round =>
      obtain ⟨j, d, G, rfl, rfl, hj, hs, hs1, hs2, hG, hb⟩ := hrel
      cases G with
      | nil =>
        have hj' : j = F.len := by simpa [Fo.len] using hj
        have hs' : d + F.wt = l := by simpa [Fo.len, Fo.wt] using hs
        have HL : Hid (leftOf F.wt l = (d : Int)) := by unfold Hid leftOf; rw [if_pos (by omega)]; congr 1; omega
        subst hj'
        clear hG hj hs hs' H
        go_wp2_with fail
        go_ret
        exact ⟨by rw [HL.out]; rfl, hb⟩
      | cons k' t' m' e' a' c' kids next =>
        rcases hG with hG | ⟨b, o', rfl, ⟨h1, h2, h3, h4, h5⟩, hk, hc1, hc2, ht', hn⟩
        · cases hG
        · have hln : j + (next.len + 1) = F.len := hj
          have hlt : (j : Int) < (F.len : Int) := by omega
          have hjl : j < F.len := by omega
          have hsz : kids.size + 1 + next.size ≤ F.size := hs2
          have hwt : d + F.wt + (next.len + 1) = l + (t'.size + kids.wt + 1 + next.wt) := hs
          have hnw := next.len_wt
          clear hj hs hin hs2
          go_wp2_with fail
          refine (H k' t' m' e' a' c' kids wr d (by omega) hk hc1 hc2 ht' (by omega)).mono ?_
          rintro e w1 ⟨rfl, hb1⟩
          have hn1 := Fo.from_grow hb1 next b _ hn
          have hb2 := hb.trans (hb1.mono hb.size)
          clear h1 h2 h3 h4 h5 hk hn hb1 hb H
          by_cases hd : t'.size + kids.wt ≤ d
          · have HL : Hid (leftOf (t'.size + kids.wt) d = ((d - (t'.size + kids.wt) : Nat) : Int)) := by unfold Hid leftOf; rw [if_pos hd]
            rw [HL.out]
            obtain ⟨d', hd'⟩ : ∃ d', d' = d - (t'.size + kids.wt) := ⟨_, rfl⟩
            rw [← hd']
            have hd2 : d' + (t'.size + kids.wt) = d := by omega
            clear hd' HL hd
            have hd0 : ¬ (d' : Int) < 0 := by omega
            go_wp2_with fail
            go_round
            case rel =>
              refine ⟨j + 1, d', next, by go_num, rfl, by omega, by omega, by omega, by omega, .inr ⟨b, o', rfl, ?_⟩, hb2⟩
              rw [show o' + (j + 1) * 5 = o' + j * 5 + 5 by omega]; exact hn1
            case measure => simp [intOf]; omega
          · have HL : Hid (leftOf (t'.size + kids.wt) d = -1) := by unfold Hid leftOf; rw [if_neg hd]
            have HR : Hid (leftOf F.wt l = -1) := by unfold Hid leftOf; rw [if_neg (by omega)]
            rw [HL.out]
            clear HL hd
            go_wp2_with fail
            go_ret
            exact ⟨by rw [HR.out]; rfl, hb2⟩
  · have h0' : (l : Int) - (F.len : Int) < 0 := by omega
    have HL : Hid (leftOf F.wt l = -1) := by unfold Hid leftOf; rw [if_neg (by omega)]
    rw [HL.out]
    clear H
    go_enter Try.func26, Try.ntmps26
    go_wp2_with fail
    go_ret
    exact ⟨rfl, Below.refl _ _⟩

set_option maxHeartbeats 1000000 in
theorem szNode_step (N : Nat) (H : ∀ (a : Option Addr) (c : Nat) (F : Fo) (w : World) (l : Nat), F.size ≤ N → F.In w a → F.len ≤ c → c ≤ maxLen → l ≤ 1048576 →
      Calls Try.prog 26 #[.slice a F.len c, .int .i64 l] w fun e w' => e = .returned (.int .i64 (leftOf F.wt l)) ∧ Below w.heap.size w w') :
    ∀ (k : Int) (t : ByteArray) (m e : Int) (a : Option Addr) (c : Nat) (F : Fo) (w : World) (l : Nat), F.size ≤ N → F.In w a → F.len ≤ c → c ≤ maxLen → t.size ≤ maxLen → l ≤ 1048576 →
      Calls Try.prog 8 #[nodeV k t m e a F.len c, .int .i64 l] w fun e w' => e = .returned (.int .i64 (leftOf (t.size + F.wt) l)) ∧ Below w.heap.size w w' := by
  intro k t m e a c F w l hF hin hl hc ht hl2
  have hcc := hc
  unfold maxLen at hc ht
  by_cases h0 : t.size ≤ l
  · have h0' : ¬ (l : Int) - (t.size : Int) < 0 := by omega
    go_enter Try.func8, Try.ntmps8
    go_wp2_with fail
    rw [show (l : Int) - (t.size : Int) = ((l - t.size : Nat) : Int) by omega]
    have hb0 : Below w.heap.size w (w.alloc (.cells #[.int .i64 k, .string t, .int .i64 m, .int .i64 e, .slice a F.len c] 26)) := (Below.refl _ w).alloc (Nat.le_refl _) _
    refine (H a c F _ (l - t.size) hF (hin.grow hb0) hl hcc (by omega)).mono ?_
    rintro e w1 ⟨rfl, hb1⟩
    have hb2 : Below w.heap.size w w1 := hb0.trans (hb1.mono (by simp))
    clear hb0 hb1 H hin
    by_cases hd : t.size + F.wt ≤ l
    · have HL : Hid (leftOf F.wt (l - t.size) = ((l - (t.size + F.wt) : Nat) : Int)) := by unfold Hid leftOf; rw [if_pos (by omega)]; congr 1; omega
      have HR : Hid (leftOf (t.size + F.wt) l = ((l - (t.size + F.wt) : Nat) : Int)) := by unfold Hid leftOf; rw [if_pos hd]
      rw [HL.out]
      obtain ⟨d', hd'⟩ : ∃ d', d' = l - (t.size + F.wt) := ⟨_, rfl⟩
      rw [← hd'] at HR ⊢
      have hd0 : ¬ (d' : Int) < 0 := by omega
      clear HL hd hd'
      go_wp2_with fail
      go_ret
      exact ⟨by rw [HR.out]; rfl, hb2⟩
    · have HL : Hid (leftOf F.wt (l - t.size) = -1) := by unfold Hid leftOf; rw [if_neg (by omega)]
      have HR : Hid (leftOf (t.size + F.wt) l = -1) := by unfold Hid leftOf; rw [if_neg hd]
      rw [HL.out]
      clear HL hd
      go_wp2_with fail
      go_ret
      exact ⟨by rw [HR.out]; rfl, hb2⟩
  · have h0' : (l : Int) - (t.size : Int) < 0 := by omega
    have HL : Hid (leftOf (t.size + F.wt) l = -1) := by unfold Hid leftOf; rw [if_neg (by omega)]
    rw [HL.out]
    clear H
    go_enter Try.func8, Try.ntmps8
    go_wp2_with fail
    go_ret
    exact ⟨rfl, (Below.refl _ _).alloc (Nat.le_refl _) _⟩

theorem szNode_all (N : Nat) : ∀ (k : Int) (t : ByteArray) (m e : Int) (a : Option Addr) (c : Nat) (F : Fo) (w : World) (l : Nat), F.size < N → F.In w a → F.len ≤ c → c ≤ maxLen → t.size ≤ maxLen → l ≤ 1048576 →
      Calls Try.prog 8 #[nodeV k t m e a F.len c, .int .i64 l] w fun e w' => e = .returned (.int .i64 (leftOf (t.size + F.wt) l)) ∧ Below w.heap.size w w' := by
  induction N with
  | zero => intro k t m e a c F w l hF; omega
  | succ N ih => exact fun k t m e a c F w l hF => szNode_step N (szNodeS_step N ih) k t m e a c F w l (by omega)
/-- the laws' measure of a tree -/
theorem szNode_any (k : Int) (t : ByteArray) (m e : Int) (a : Option Addr) (c : Nat) (F : Fo) (w : World) (l : Nat) (h1 : F.In w a) (h2 : F.len ≤ c) (h3 : c ≤ maxLen) (h4 : t.size ≤ maxLen) (h5 : l ≤ 1048576) :
      Calls Try.prog 8 #[nodeV k t m e a F.len c, .int .i64 l] w fun e w' => e = .returned (.int .i64 (leftOf (t.size + F.wt) l)) ∧ Below w.heap.size w w' :=
  szNode_all (F.size + 1) k t m e a c F w l (by omega) h1 h2 h3 h4 h5
end Go.Proofs.Ytapdlnakbpociaa
