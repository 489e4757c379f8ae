/- Contracts: QuotePut of both sides. -/
import Derived.Test.YtkdilgmlabaehaaQuoP
import Derived.Deep.RegionHeld3
import Derived.Deep.DeepCutAuto
namespace Go.Proofs.Ytkdilgmlabaehaa
open Go.RowKit
set_option maxHeartbeats 1000000 in
theorem sQuotePut_any (s : ByteArray) (w : World) (hs : s.size ≤ 20000000) :
    Calls Try.prog 7 #[.string s] w fun e w' => e = .returned (.string ⟨(Qm.quote s.data.toList).toArray⟩) ∧ Below w.heap.size w w' := by
  go_enter Try.func7, Try.ntmps7
  go_wp2_with fail
  go_loopw [3, 4] (fun o i wr => ∃ k : Nat, k ≤ s.size ∧ i = .int .i64 k ∧ o = .string ⟨(34 :: (s.data.toList.take k).flatMap Qm.esc).toArray⟩ ∧ Below w.heap.size w wr) (fun _ i _ => s.size - (intOf i).toNat)
  case atStart => exact ⟨0, Nat.zero_le _, rfl, rfl, Below.refl _ _⟩
  case round =>
    obtain ⟨k, hk, rfl, rfl, hB⟩ := hrel
    have hfl := Qm.flat_length (s.data.toList.take k)
    have htl : (s.data.toList.take k).length ≤ k := List.length_take_le _ _
    by_cases hlt : k < s.size
    · have HS : Hid ((s.data.toList.take (k + 1)).flatMap Qm.esc = (s.data.toList.take k).flatMap Qm.esc ++ Qm.esc s[k]) := Qm.flat_take s k hlt
      have hel := Qm.esc_length s[k]
      have hsz1 := arr_size (34 :: (s.data.toList.take k).flatMap Qm.esc)
      have hsz2 := arr_size (Qm.esc s[k])
      rw [List.length_cons] at hsz1
      go_wp2_with (go_at_call 18; refine (l2Escape_any _ _).mono ?_; rintro e w1 ⟨rfl, hb1⟩)
      go_roundw
      case rel => exact ⟨k + 1, by omega, by go_num, by rw [arr_append, HS.out, List.cons_append], hB.trans (hb1.mono hB.size)⟩
      case measure => simp [intOf]; omega
    · have ht : s.data.toList.take k = s.data.toList := List.take_of_length_le (by rw [Qm.len_eq]; omega)
      have HT : Hid (Qm.quote s.data.toList = 34 :: ((s.data.toList.take k).flatMap Qm.esc ++ [34])) := by unfold Hid; rw [ht]; rfl
      clear ht
      generalize (s.data.toList.take k).flatMap Qm.esc = F at *
      have hsz1 := arr_size (34 :: F)
      rw [List.length_cons] at hsz1
      go_wp2_with fail
      go_ret
      exact ⟨ret_str (by rw [HT.out, show (⟨#[34]⟩ : ByteArray) = ⟨[34].toArray⟩ from rfl, arr_append]; rfl), hB⟩

/-- the quoting lies in its box, and nothing up to it changed -/
abbrev HeldB (W0 : World) (q : Nat) (W : World) : Prop := (W.cell? ⟨q, 0, none⟩ = some (.string ⟨#[92, 120]⟩) ∧ W.cell? ⟨q, 1, none⟩ = some (.string ⟨#[34, 92, 110]⟩) ∧ W.cell? ⟨q, 2, none⟩ = some (.string ⟨#[34, 92, 10]⟩) ∧ W.cell? ⟨q, 3, none⟩ = some (.int .i64 3)) ∧ Below (q + 1) W0 W
theorem HeldB.grow {W0 w w' : World} {q : Nat} (h : HeldB W0 q w) (hb : Below (q + 1) w w') : HeldB W0 q w' := by
  obtain ⟨⟨x0, x1, x2, x3⟩, h3⟩ := h
  exact ⟨⟨(hb.cell (p := ⟨q, 0, none⟩) (Nat.lt_succ_self _)).trans x0, (hb.cell (p := ⟨q, 1, none⟩) (Nat.lt_succ_self _)).trans x1, (hb.cell (p := ⟨q, 2, none⟩) (Nat.lt_succ_self _)).trans x2, (hb.cell (p := ⟨q, 3, none⟩) (Nat.lt_succ_self _)).trans x3⟩, h3.trans hb⟩
theorem HeldB.drew {W0 w : World} {q : Nat} (h : HeldB W0 q w) : HeldB W0 q w.drew := h.grow ((Below.refl _ _).drew)
theorem holds_lt {B k : Nat} {acc : List UInt8} {w : World} (h : Holds B k acc w) : k < w.heap.size := by
  rcases h with ⟨_, v, h, _⟩ | ⟨_, v, h, _⟩ <;> exact (Array.getElem?_eq_some_iff.1 h).1
set_option maxHeartbeats 1000000 in
theorem put_any (s : ByteArray) (w : World) (hs : s.size ≤ 20000000) :
    Calls Try.prog 20 #[pq, .string s] w fun e w' => e = .returned (.string ⟨(Qm.quote s.data.toList).toArray⟩) ∧ Below w.heap.size w w' := by
  go_enter Try.func20, Try.ntmps20
  go_wp2_with fail
  have hq0 := qbox_new w
  have hB0 := (Below.refl _ w).alloc (Nat.le_refl _) (.cells #[.string ⟨#[92, 120]⟩, .string ⟨#[34, 92, 110]⟩, .string ⟨#[34, 92, 10]⟩, .int .i64 3] 38)
  have h0 : Holds (w.heap.size + 1) (w.heap.size + 1) [] ((w.alloc (.cells #[.string ⟨#[92, 120]⟩, .string ⟨#[34, 92, 110]⟩, .string ⟨#[34, 92, 10]⟩, .int .i64 3] 38)).alloc (.cells #[.pointer none, .slice none 0 0] 59)) := by
    have := Lib.IsBuilderF.of (Lib.fresh_isBuilder 59 5 (w.alloc (.cells #[.string ⟨#[92, 120]⟩, .string ⟨#[34, 92, 110]⟩, .string ⟨#[34, 92, 10]⟩, .int .i64 3] 38)))
    simp at this
    exact this
  have b0 : Below (w.heap.size + 1) (w.alloc (.cells #[.string ⟨#[92, 120]⟩, .string ⟨#[34, 92, 110]⟩, .string ⟨#[34, 92, 10]⟩, .int .i64 3] 38)) ((w.alloc (.cells #[.string ⟨#[92, 120]⟩, .string ⟨#[34, 92, 110]⟩, .string ⟨#[34, 92, 10]⟩, .int .i64 3] 38)).alloc (.cells #[.pointer none, .slice none 0 0] 59)) := (Below.refl _ _).alloc (by simp) _
  have hsz : w.heap.size + 1 ≤ (w.alloc (.cells #[.string ⟨#[92, 120]⟩, .string ⟨#[34, 92, 110]⟩, .string ⟨#[34, 92, 10]⟩, .int .i64 3] 38)).heap.size := by simp
  generalize w.alloc (.cells #[.string ⟨#[92, 120]⟩, .string ⟨#[34, 92, 110]⟩, .string ⟨#[34, 92, 10]⟩, .int .i64 3] 38) = W0 at *
  have hz0 := b0.size
  refine (wByte _ _ [] 34 34 rfl _ h0 (by simp) (by omega)).mono ?_
  rintro e w1 ⟨rfl, h1, b1, k1⟩
  have hB1 := b0.trans b1
  clear h0 b0 b1 k1 hz0
  have HQ : Hid (∀ W, Below (w.heap.size + 1) W0 W → Qbox w.heap.size W) := fun W h => (h.block _ (by omega)).trans hq0
  have HB : Hid (∀ W, Below (w.heap.size + 1) W0 W → Below w.heap.size w W) := fun W h => hB0.trans (h.mono (by omega))
  clear hq0 hB0
  go_wp2_with fail
  go_loopw [10] (fun i wr => ∃ k : Nat, k ≤ s.size ∧ i = .int .i64 k ∧ Holds (w.heap.size + 1) (w.heap.size + 1) (34 :: (s.data.toList.take k).flatMap Qm.esc) wr ∧ Below (w.heap.size + 1) W0 wr) (fun i _ => s.size - (intOf i).toNat)
  case atStart => exact ⟨0, Nat.zero_le _, rfl, h1, hB1⟩
  case round =>
    obtain ⟨k, hk, rfl, hH, hB⟩ := hrel
    have hfl := Qm.flat_length (s.data.toList.take k)
    have htl : (s.data.toList.take k).length ≤ k := List.length_take_le _ _
    have hz := hB.size
    have hkk := holds_lt hH
    obtain ⟨c0, c1, c2, c3⟩ := qbox_cells (HQ.out _ hB)
    by_cases hlt : k < s.size
    · have HS : Hid ((s.data.toList.take (k + 1)).flatMap Qm.esc = (s.data.toList.take k).flatMap Qm.esc ++ Qm.esc s[k]) := Qm.flat_take s k hlt
      have hS0 : HeldB W0 w.heap.size wr := ⟨⟨c0, c1, c2, c3⟩, hB⟩
      have hkl : (k : Int) < (s.size : Int) := by omega
      clear c0 c1 c2 c3
      go_wp2_with fail
      refine wp_region_held_drew (S := fun w' => HeldB W0 w.heap.size w') (by kernel_rfl) hS0.drew (fun hHeld => ?_)
      refine wpAnyH_take (i := 0) (v := pq) rfl (by kernel_rfl) (by kernel_rfl) (by kernel_rfl) (fun _ _ _ h => h) (Or.inl ⟨by rfl, ?_⟩) (by assumption) ?_
      · intro w hSw
        (try dsimp only at hSw)
        go_simp
      (try simp only [Act.put, List.getElem_toArray, List.getElem_cons_zero, List.setIfInBounds_toArray, List.set_cons_zero, List.set_cons_succ])
      refine wpAnyH_take (i := 1) (v := .string s) rfl (by kernel_rfl) (by kernel_rfl) (by kernel_rfl) (fun _ _ _ h => h) (Or.inl ⟨by rfl, ?_⟩) (by assumption) ?_
      · intro w hSw
        (try dsimp only at hSw)
        go_simp
      (try simp only [Act.put, List.getElem_toArray, List.getElem_cons_zero, List.getElem_cons_succ, List.setIfInBounds_toArray, List.set_cons_zero, List.set_cons_succ])
      refine wpAnyH_take (i := 2) (v := .int .i64 k) rfl (by kernel_rfl) (by kernel_rfl) (by kernel_rfl) (fun _ _ _ h => h) (Or.inl ⟨by rfl, ?_⟩) (by assumption) ?_
      · intro w hSw
        (try dsimp only at hSw)
        go_simp
      (try simp only [Act.put, List.getElem_toArray, List.getElem_cons_zero, List.getElem_cons_succ, List.setIfInBounds_toArray, List.set_cons_zero, List.set_cons_succ])
      refine wpAnyH_take (i := 3) (v := .int .u8 s[k].toNat) rfl (by kernel_rfl) (by kernel_rfl) (by kernel_rfl) (fun _ _ _ h => h) (Or.inl ⟨by rfl, ?_⟩) (by assumption) ?_
      · intro w hSw
        (try dsimp only at hSw)
        go_simp
      (try simp only [Act.put, List.getElem_toArray, List.getElem_cons_zero, List.getElem_cons_succ, List.setIfInBounds_toArray, List.set_cons_zero, List.set_cons_succ])
      refine wpAnyH_ready (rs := [4]) (by kernel_rfl) (by simp) ?_
      refine AllReadyH.cons rfl (fun K hK => ?_) AllReadyH.nil
      go_simp
      refine (putByte_any s[k] _ (w.heap.size + 1) (w.heap.size + 1) _ (show Holds _ _ _ wr.drew from hH) (by show _ < wr.heap.size; exact hkk) (by rw [List.length_cons]; omega) (by show _ ≤ wr.heap.size; omega)).mono ?_
      rintro r w2 ⟨rfl, hH2, hb2⟩
      have hS := HeldB.grow (by assumption) hb2
      go_wp2_with fail
      refine hK.out _ _ hS (fun hHeld => ?_)
      clear hK K hS
      refine wpAnyH_done (by kernel_rfl) ?_ _
      go_wp2_with fail
      go_round
      case rel => exact ⟨k + 1, by omega, by go_num, by rw [HS.out]; exact hH2, hHeld.2⟩
      case measure => simp [intOf]; omega
    · have ht : s.data.toList.take k = s.data.toList := List.take_of_length_le (by rw [Qm.len_eq]; omega)
      rw [ht] at hH hfl htl
      clear ht
      have hkl : ¬ (k : Int) < (s.size : Int) := by omega
      go_wp2_with fail
      refine (wByte _ _ _ 34 34 rfl _ hH (by rw [List.length_cons]; omega) (by omega)).mono ?_
      rintro e w2 ⟨rfl, h2, b2, k2⟩
      have b2' := hB.trans b2
      have hz2 := b2'.size
      go_wp2_with fail
      refine (bString _ _ _ _ h2 (by omega)).mono ?_
      rintro e w3 ⟨rfl, h3, b3, k3⟩
      have hBe := HB.out _ (b2'.trans b3)
      go_wp2_with fail
      go_ret
      exact ⟨rfl, hBe⟩
set_option maxHeartbeats 1000000 in
theorem iQuotePut_any (s : ByteArray) (w : World) (hs : s.size ≤ 20000000) :
    Calls Try.prog 8 #[.string s] w fun e w' => e = .returned (.string ⟨(Qm.quote s.data.toList).toArray⟩) ∧ Below w.heap.size w w' := by
  go_enter Try.func8, Try.ntmps8
  go_wp2_with fail
  refine (paperQuoting_any _).mono ?_
  rintro e w1 ⟨rfl, hb1⟩
  go_wp2_with fail
  refine (put_any s _ hs).mono ?_
  rintro e w2 ⟨rfl, hb2⟩
  generalize hq : (⟨(Qm.quote s.data.toList).toArray⟩ : ByteArray) = q
  have HQ : Hid ((⟨(Qm.quote s.data.toList).toArray⟩ : ByteArray) = q) := hq
  clear hq
  go_wp2_with fail
  go_ret
  exact ⟨by rw [HQ.out]; rfl, hb1.trans (hb2.mono hb1.size)⟩
end Go.Proofs.Ytkdilgmlabaehaa
