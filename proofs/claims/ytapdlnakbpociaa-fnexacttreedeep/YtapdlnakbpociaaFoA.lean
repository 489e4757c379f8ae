/- Contracts over trees: TreeSize and TreeDeep of the specification. -/
import Derived.Test.YtapdlnakbpociaaFo
namespace Go.Proofs.Ytapdlnakbpociaa
open Go.RowKit

set_option maxHeartbeats 1000000 in
theorem sTreeSize_any (N : Nat) : ∀ (k : Int) (t : ByteArray) (m e : Int) (a : Option Addr) (c : Nat) (F : Fo) (w : World), F.size < N → N ≤ 2000000 → F.In w a → F.len ≤ c → c ≤ maxLen →
    Calls Try.prog 9 #[nodeV k t m e a F.len c] w fun e w' => e = .returned (.int .i64 (F.size + 1 : Nat)) ∧ Below w.heap.size w w' := by
  induction N with
  | zero => intro k t m e a c F w hF; omega
  | succ N ih =>
    intro k t m e a c F w hF hN hin hl hc
    unfold maxLen at hc
    have hll := F.len_le
    go_enter Try.func9, Try.ntmps9
    go_wp2_with fail
    go_loopw [3, 4] (fun o i wr => ∃ (j s : Nat) (G : Fo), i = .int .i64 j ∧ o = .int .i64 s ∧ j + G.len = F.len ∧ s + G.size = F.size + 1 ∧ 1 ≤ s ∧ (G = .nil ∨ ∃ b o', a = some ⟨b, o', none⟩ ∧ G.From wr b (o' + j * 5)) ∧ wr.cell? ⟨w.heap.size, 4, none⟩ = some (.slice a F.len c) ∧ Below w.heap.size w wr) (fun _ i _ => F.len - (intOf i).toNat)
    case atStart =>
      refine ⟨0, 1, F, rfl, rfl, by omega, by omega, Nat.le_refl _, ?_, by simp, (Below.refl _ _).alloc (Nat.le_refl _) _⟩
      rcases hin with h | ⟨b, o', e1, e2⟩
      · exact .inl h
      · exact .inr ⟨b, o', e1, by simpa using Fo.from_grow ((Below.refl _ w).alloc (Nat.le_refl _) _) F b o' e2⟩
    case round =>
      obtain ⟨j, s, G, rfl, rfl, hj, hs, hs1, hG, hcell, hb⟩ := hrel
      cases G with
      | nil =>
        have hj' : j = F.len := by simpa [Fo.len] using hj
        have hs' : s = F.size + 1 := by simpa [Fo.size] using hs
        subst hj' hs'
        clear hG hj hs
        go_wp2_with fail
        go_ret
        exact ⟨rfl, hb⟩
      | cons k' t' m' e' a' c' kids next =>
        rcases hG with hG | ⟨b, o', rfl, ⟨h1, h2, h3, h4, h5⟩, hk, hc1, hc2, _, hn⟩
        · cases hG
        · have hlt : (j : Int) < (F.len : Int) := by have : j + (next.len + 1) = F.len := hj; omega
          have hjl : j < F.len := by omega
          have hsz : s + (kids.size + 1 + next.size) = F.size + 1 := hs
          have hln : j + (next.len + 1) = F.len := hj
          clear hj hs hin
          go_wp2_with fail
          refine (ih k' t' m' e' a' c' kids wr (by omega) (by omega) hk hc1 hc2).mono ?_
          rintro e w1 ⟨rfl, hb1⟩
          have hn1 := Fo.from_grow hb1 next b _ hn
          have hz := hb.size
          have hlw := World.block_lt_of_cell? wr _ hcell
          have hcell1 : w1.cell? ⟨w.heap.size, 4, none⟩ = some (.slice (some ⟨b, o', none⟩) F.len c) := (hb1.cell (p := ⟨w.heap.size, 4, none⟩) hlw).trans hcell
          have hb2 := hb.trans (hb1.mono hz)
          clear h1 h2 h3 h4 h5 hk hn hcell hb1 hb ih
          go_wp2_with fail
          go_round
          case rel =>
            refine ⟨j + 1, s + (kids.size + 1), next, by go_num, by go_num, by omega, by omega, by omega, .inr ⟨b, o', rfl, ?_⟩, hcell1, hb2⟩
            rw [show o' + (j + 1) * 5 = o' + j * 5 + 5 by omega]; exact hn1
          case measure => simp [intOf]; omega
set_option maxHeartbeats 1000000 in
theorem sTreeDeep_any (N : Nat) : ∀ (k : Int) (t : ByteArray) (m e : Int) (a : Option Addr) (c : Nat) (F : Fo) (w : World), F.size < N → N ≤ 2000000 → F.In w a → F.len ≤ c → c ≤ maxLen →
    Calls Try.prog 13 #[nodeV k t m e a F.len c] w fun e w' => e = .returned (.int .i64 (F.deep + 1 : Nat)) ∧ Below w.heap.size w w' := by
  induction N with
  | zero => intro k t m e a c F w hF; omega
  | succ N ih =>
    intro k t m e a c F w hF hN hin hl hc
    unfold maxLen at hc
    have hll := F.len_le
    have hdd := F.deep_le
    go_enter Try.func13, Try.ntmps13
    go_wp2_with fail
    go_loopw [3, 4] (fun o i wr => ∃ (j s : Nat) (G : Fo), i = .int .i64 j ∧ o = .int .i64 s ∧ j + G.len = F.len ∧ max s G.deep = F.deep ∧ G.size ≤ F.size ∧ (G = .nil ∨ ∃ b o', a = some ⟨b, o', none⟩ ∧ G.From wr b (o' + j * 5)) ∧ wr.cell? ⟨w.heap.size, 4, none⟩ = some (.slice a F.len c) ∧ Below w.heap.size w wr) (fun _ i _ => F.len - (intOf i).toNat)
    case atStart =>
      refine ⟨0, 0, F, rfl, rfl, by omega, by omega, Nat.le_refl _, ?_, by simp, (Below.refl _ _).alloc (Nat.le_refl _) _⟩
      rcases hin with h | ⟨b, o', e1, e2⟩
      · exact .inl h
      · exact .inr ⟨b, o', e1, by simpa using Fo.from_grow ((Below.refl _ w).alloc (Nat.le_refl _) _) F b o' e2⟩
    case round =>
      obtain ⟨j, s, G, rfl, rfl, hj, hs, hs1, hG, hcell, hb⟩ := hrel
      cases G with
      | nil =>
        have hj' : j = F.len := by simpa [Fo.len] using hj
        have hs' : s = F.deep := by simpa [Fo.deep] using hs
        subst hj' hs'
        clear hG hj hs
        go_wp2_with fail
        go_ret
        exact ⟨rfl, hb⟩
      | cons k' t' m' e' a' c' kids next =>
        rcases hG with hG | ⟨b, o', rfl, ⟨h1, h2, h3, h4, h5⟩, hk, hc1, hc2, _, hn⟩
        · cases hG
        · have hlt : (j : Int) < (F.len : Int) := by have : j + (next.len + 1) = F.len := hj; omega
          have hjl : j < F.len := by omega
          have hsz : kids.size + 1 + next.size ≤ F.size := hs1
          have hds : max s (max (kids.deep + 1) next.deep) = F.deep := hs
          have hln : j + (next.len + 1) = F.len := hj
          clear hj hs hin hs1
          go_wp2_with fail
          refine (ih k' t' m' e' a' c' kids wr (by omega) (by omega) hk hc1 hc2).mono ?_
          rintro e w1 ⟨rfl, hb1⟩
          have hn1 := Fo.from_grow hb1 next b _ hn
          have hz := hb.size
          have hlw := World.block_lt_of_cell? wr _ hcell
          have hcell1 : w1.cell? ⟨w.heap.size, 4, none⟩ = some (.slice (some ⟨b, o', none⟩) F.len c) := (hb1.cell (p := ⟨w.heap.size, 4, none⟩) hlw).trans hcell
          have hb2 := hb.trans (hb1.mono hz)
          have hkd : kids.deep + 1 ≤ F.deep := by omega
          clear h1 h2 h3 h4 h5 hk hn hcell hb1 hb ih
          have HD : Hid (max s (max (kids.deep + 1) next.deep) = F.deep) := hds
          clear hds
          by_cases hd : s < kids.deep + 1
          · have hd' : (s : Int) < (kids.deep : Int) + 1 := by omega
            go_wp2_with fail
            go_round
            case rel =>
              refine ⟨j + 1, kids.deep + 1, next, by go_num, by go_num, by omega, ?_, by omega, .inr ⟨b, o', rfl, ?_⟩, hcell1, hb2⟩
              · have := HD.out; omega
              · rw [show o' + (j + 1) * 5 = o' + j * 5 + 5 by omega]; exact hn1
            case measure => simp [intOf]; omega
          · have hd' : ¬ (s : Int) < (kids.deep : Int) + 1 := by omega
            go_wp2_with fail
            go_round
            case rel =>
              refine ⟨j + 1, s, next, by go_num, by go_num, by omega, ?_, by omega, .inr ⟨b, o', rfl, ?_⟩, hcell1, hb2⟩
              · have := HD.out; omega
              · rw [show o' + (j + 1) * 5 = o' + j * 5 + 5 by omega]; exact hn1
            case measure => simp [intOf]; omega
end Go.Proofs.Ytapdlnakbpociaa
