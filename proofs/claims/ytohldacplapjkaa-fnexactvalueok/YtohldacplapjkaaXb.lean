/- Values that are ok: what the program asks of an object. -/
import Derived.Test.YtohldacplapjkaaXa
namespace Go.Proofs.Ytohldacplapjkaa
open Go.RowKit
set_option maxRecDepth 100000 in
set_option maxHeartbeats 1000000 in
theorem objFits_any (ss : List ByteArray) (na : Option Addr) (nc : Nat) (a : Option Addr) (n c : Nat) (w : World) (hin : SIn w ss na) (hl : ss.length ≤ nc) (hc : nc ≤ maxLen) :
    Calls Try.prog 80 #[.agg #[.slice na ss.length nc, .slice a n c]] w fun r w' => SaysT (ss.length = n ∧ nmAsc ss ss.length) r ∧ Below w.heap.size w w' := by
  unfold maxLen at hc
  obtain ⟨N, hN⟩ : ∃ N, ss.length = N := ⟨_, rfl⟩
  have HN : Hid (ss.length = N) := hN
  rw [hN] at hl ⊢
  clear hN
  have hB0 := (Below.refl _ w).alloc (Nat.le_refl _) (.cells #[.slice na N nc, .slice a n c] 87)
  have R0 := Row.new w [.slice na N nc, .slice a n c] 87
  by_cases hne : N = n
  · subst hne
    go_enter Try.func80, Try.ntmps80
    go_wp2_with fail
    obtain ⟨W0, hW0⟩ : ∃ W0, w.alloc (.cells #[.slice na N nc, .slice a N c] 87) = W0 := ⟨_, rfl⟩
    rw [show w.alloc (.cells [.slice na N nc, .slice a N c].toArray 87) = W0 from hW0] at R0
    rw [hW0] at hB0
    have HBx : Hid (∀ W, Below W0.heap.size W0 W → W.cell? ⟨w.heap.size, 0, none⟩ = some (.slice na N nc)) := fun W h => (R0.below h R0.lt 0 _ rfl).1
    clear R0
    go_loopw [15] (fun i wr => ∃ (j : Nat), i = .int .i64 j ∧ j ≤ N ∧ nmAsc ss j ∧ Below W0.heap.size W0 wr) (fun i _ => N - (intOf i).toNat)
    case atStart => exact ⟨0, rfl, Nat.zero_le _, nmAsc_zero ss, by rw [hW0]; exact Below.refl _ _⟩
    case round =>
      obtain ⟨j, rfl, hj, hP, hbz⟩ := hrel
      have HP : Hid (nmAsc ss j) := hP
      clear hP hW0
      have hb := hB0.trans (hbz.mono hB0.size)
      have x0 := HBx.out _ hbz
      by_cases hjn : j < N
      · have hlt : (j : Int) < (N : Int) := by omega
        obtain ⟨s, hs⟩ : ∃ s, ss[j]? = some s := ⟨ss[j]'(by rw [HN.out]; exact hjn), List.getElem?_eq_getElem _⟩
        rcases hin with hin | ⟨b, o, rfl, hF⟩
        · rw [hin] at hs; simp at hs
        obtain ⟨h1, hsz⟩ := (hF.grow hb).at hs
        have HS : Hid (ss[j]? = some s) := hs
        clear hs
        have HNm := iNameOk_any s wr hsz
        cases hnm : Qm.name s
        · have HR : Hid (¬ (N = N ∧ nmAsc ss N)) := fun h => nmAsc_bad hjn HS.out hnm h.2
          rw [hnm] at HNm
          clear hF
          go_wp2_with (go_at_call 82; refine HNm.mono ?_; rintro e w' ⟨rfl, rfl⟩)
          go_ret
          exact ⟨⟨false, rfl, fun h => (by cases h), fun h => absurd h HR.out⟩, hb⟩
        · rw [hnm] at HNm
          cases j with
          | zero =>
            have h1' : wr.cell? ⟨b, o, none⟩ = some (.string s) := h1
            have hN0 : ¬ N = 0 := by omega
            clear hF h1
            go_wp2_with (go_at_call 82; refine HNm.mono ?_; rintro e w' ⟨rfl, rfl⟩)
            go_round
            case rel => exact ⟨1, by go_num, by omega, nmAsc_first HS.out hnm, hbz⟩
            case measure => simp [intOf]; omega
          | succ i =>
            obtain ⟨p, hp⟩ : ∃ p, ss[i]? = some p := ⟨ss[i]'(by rw [HN.out]; omega), List.getElem?_eq_getElem _⟩
            have h2 := ((hF.grow hb).at hp).1
            have HPr : Hid (ss[i]? = some p) := hp
            clear hF hp
            have hlt' : (i : Int) + 1 < (N : Int) := by omega
            have hlt2 : (i : Int) < (N : Int) := by omega
            have hj0 : ¬ (i : Int) + 1 < 0 := by omega
            have hj1 : (0 : Int) < (i : Int) + 1 := by omega
            cases hbl : Op.bytesLess p.toList s.toList
            · have HR : Hid (¬ (N = N ∧ nmAsc ss N)) := fun h => nmAsc_down hjn HS.out HPr.out hbl h.2
              go_wp2_with (go_at_call 82; refine HNm.mono ?_; rintro e w' ⟨rfl, rfl⟩)
              go_ret
              exact ⟨⟨false, rfl, fun h => (by cases h), fun h => absurd h HR.out⟩, hb⟩
            · go_wp2_with (go_at_call 82; refine HNm.mono ?_; rintro e w' ⟨rfl, rfl⟩)
              go_round
              case rel => exact ⟨i + 1 + 1, by go_num, by omega, nmAsc_next HP.out HS.out HPr.out hnm hbl, hbz⟩
              case measure => simp [intOf]; omega
      · have e : j = N := by omega
        subst e
        clear hin
        go_wp2_with fail
        go_ret
        exact ⟨⟨true, rfl, fun _ => ⟨trivial, HP.out⟩, fun _ => rfl⟩, hb⟩
  · have hne' : ¬ (N : Int) = (n : Int) := by omega
    clear hin R0
    go_enter Try.func80, Try.ntmps80
    go_wp2_with fail
    go_ret
    exact ⟨⟨false, rfl, fun h => (by cases h), fun h => absurd h.1 hne⟩, hB0⟩
end Go.Proofs.Ytohldacplapjkaa
