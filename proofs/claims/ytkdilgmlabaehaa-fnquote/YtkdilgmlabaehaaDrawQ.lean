/- Contracts of the drawing functions: l14Bytes, DrawQuotePut. -/
import Derived.Test.YtkdilgmlabaehaaDrawW
import Derived.Test.YtkdilgmlabaehaaQuoW
namespace Go.Proofs.Ytkdilgmlabaehaa
open Go.RowKit
theorem extract_end_size (t : ByteArray) (c : Nat) : (t.extract c t.size).size = t.size - c := by rw [← Qm.len_eq, extract_from, List.length_drop, Qm.len_eq]

theorem own_step {W W' : World} {base b : Nat} {p : Int} {e : TypeId} {size : Nat} {v : Value} {n : Nat} {xs : List Value} (h : W.ownsRow base e size v n xs) (hs : Stepped b p W W') (hb : b < base) : W'.ownsRow base e size v n xs := by
  obtain ⟨j, rfl⟩ := hs
  have h1 := ownsRow_setCell_below (a := ⟨b, 1, none⟩) h hb (.int .i64 (p + 1))
  obtain ⟨q1, q2⟩ := h1
  refine ⟨q1, ?_⟩
  rcases q2 with q2 | ⟨g, cap, cur, e1, e2, e3, e4, e5, e6, e7⟩
  · exact .inl q2
  · exact .inr ⟨g, cap, cur, e1, e2, by simpa using e3, e4, e5, e6, e7⟩
theorem conv_ints {W : World} {base n : Nat} {v : Value} {xs : List Int} (h : W.ownsRow base 5 1 v n (xs.map (Value.int .u8))) (hn : n = xs.length) :
    (convert 26 9 v).run Try.prog W = .ok (.string (strOfNums xs)) W := by
  subst hn
  obtain ⟨h1, h2⟩ := h
  rcases h2 with ⟨rfl, h0⟩ | ⟨g, cap, cur, rfl, e2, e3, e4, e5, e6, e7⟩
  · have : xs = [] := List.eq_nil_of_length_eq_zero h0
    subst this
    exact run_convert_bytes_nil _ 26 5 Try.underlying26 Try.underlying5 0 0 9 Try.underlying9
  · exact run_convert_bytes_arg (P := Try.prog) W 26 5 Try.underlying26 Try.underlying5 g 0 xs.length cap xs rfl (fun i hi => by
      rw [Nat.zero_add]
      have h := World.ownsRow.cellAt ⟨h1, .inr ⟨g, cap, cur, rfl, e2, e3, e4, e5, e6, e7⟩⟩ i (by omega)
      rw [h]
      simp [hi]) 9 Try.underlying9

theorem Rd.upto {w0 : World} {B B' b : Nat} {a : Option Addr} {len cap : Nat} {p : Int} {W W' : World} (h : Rd w0 B b a len cap p W) (hb : Below B' W W') (h1 : b < B') (h2 : B ≤ B') : Rd w0 B b a len cap p W' := by
  obtain ⟨g1, g2, g3, g4, g5, g6, g7, g8, g9⟩ := h
  have := hb.size
  exact ⟨g1.trans (hb.mono h2), g2, by omega, g4, g5, g6, (hb.cell (p := ⟨b, 0, none⟩) h1).trans g7, (hb.cell (p := ⟨b, 1, none⟩) h1).trans g8, (hb.frozen (p := ⟨b, 1, none⟩) h1).trans g9⟩
theorem Rd.base_le {w0 : World} {B b : Nat} {a : Option Addr} {len cap : Nat} {p : Int} {W : World} (h : Rd w0 B b a len cap p W) : B ≤ b := h.2.1
/-- what l14Bytes draws of -/
def drawnBytes : List Int := [97, 98, 122, 32, 10, 34, 92, 0, 255, 127, 120, 49, 200, 9]
theorem drawnBytes_le : ∀ z ∈ drawnBytes, 0 ≤ z ∧ z ≤ 255 := by decide

set_option maxHeartbeats 2000000 in
theorem l14Bytes_any {w0 : World} {B b : Nat} {a : Option Addr} {len cap : Nat} {p : Int} {W : World} (h : Rd w0 B b a len cap p W) (p1 : p ≤ 90000) :
    Calls Try.prog 23 #[.pointer (some ⟨b, 0, none⟩)] W fun e w' => ∃ s p', e = .returned (.string s) ∧ s.size ≤ 7 ∧ p' ≤ p + 10 ∧ Rd w0 B b a len cap p' w' := by
  have hlt := h.lt
  obtain ⟨i0, hi, hz0, hz1, hz2⟩ := info_parts byteInfo
  have R0 : Rd w0 B b a len cap p (W.alloc (.cells #[] 5)) := h.below ((Below.refl _ _).alloc (Nat.le_refl _) _)
  have own0 : (W.alloc (.cells #[] 5)).ownsRow W.heap.size 5 1 (.slice (some ⟨W.heap.size, 0, none⟩) 0 0) 0 [] := World.ownsRow_lit W #[] 0 (Nat.le_refl _) (by unfold maxLen; omega) rfl
  go_enter Try.func23, Try.ntmps23
  go_wp2_with fail
  refine (pick_any 8 R0 (by omega) (by omega) (by omega)).mono ?_
  rintro e w1 ⟨⟨n, rfl, n0, n1⟩, s1⟩
  have R1 := R0.step s1
  have own1 := own_step own0 s1 (by omega)
  have z1 : W.heap.size ≤ w1.heap.size := by rw [s1.other.2.2]; simp
  clear R0 own0 s1
  obtain ⟨n, rfl⟩ := Int.eq_ofNat_of_zero_le n0
  go_wp2_with fail
  go_loopw [3, 4] (fun v i wr => ∃ (k : Nat) (q : Int) (xs : List Int), i = .int .i64 k ∧ k + xs.length ≤ 7 ∧ q + k ≤ p + 8 ∧ wr.ownsRow W.heap.size 5 1 v xs.length (xs.map (Value.int .u8)) ∧ Rd w0 B b a len cap q wr ∧ W.heap.size ≤ wr.heap.size) (fun _ i _ => (intOf i).toNat)
  case atStart => exact ⟨n, p + 1, [], rfl, by simp; omega, by omega, own1, R1, z1⟩
  case round =>
    obtain ⟨k, q, xs, rfl, hk, hq, hown, hR, hz⟩ := hrel
    by_cases hlt0 : 0 < k
    · have hbl := hR.lt
      have hA := hR.below ((Below.refl wr.heap.size wr).alloc (Nat.le_refl _) (.cells #[.int .i64 97, .int .i64 98, .int .i64 122, .int .i64 32, .int .i64 10, .int .i64 34, .int .i64 92, .int .i64 0, .int .i64 255, .int .i64 127, .int .i64 120, .int .i64 49, .int .i64 200, .int .i64 9] 3))
      have hownA := hown.alloc (.cells #[.int .i64 97, .int .i64 98, .int .i64 122, .int .i64 32, .int .i64 10, .int .i64 34, .int .i64 92, .int .i64 0, .int .i64 255, .int .i64 127, .int .i64 120, .int .i64 49, .int .i64 200, .int .i64 9] 3)
      go_wp2_with fail
      refine (one_any hA (by omega) wr.heap.size 14 drawnBytes (by omega) rfl (by omega) (by omega) ?_).mono ?_
      · intro i hi
        have : i = 0 ∨ i = 1 ∨ i = 2 ∨ i = 3 ∨ i = 4 ∨ i = 5 ∨ i = 6 ∨ i = 7 ∨ i = 8 ∨ i = 9 ∨ i = 10 ∨ i = 11 ∨ i = 12 ∨ i = 13 := by omega
        rcases this with rfl | rfl | rfl | rfl | rfl | rfl | rfl | rfl | rfl | rfl | rfl | rfl | rfl | rfl
        all_goals simp [drawnBytes]
      · rintro e w2 ⟨⟨z, rfl, hzm⟩, s2⟩
        obtain ⟨zb0, zb1⟩ := drawnBytes_le z hzm
        have hR2 := hA.step s2
        have hown2 := own_step hownA s2 (by omega)
        have hz2' : W.heap.size ≤ w2.heap.size := by rw [s2.other.2.2]; simp; omega
        clear hA hownA s2 hzm hown
        go_wp2_with (at_builtin; refine wpList_append_own _ rfl _ _ 26 rfl W.heap.size 5 i0 (.int .u8 0) 1 1 Try.underlying26 hi hz0 hz1 hz2 rfl (by decide) _ _ _ rfl (hown2.alloc _) ⟨w2.heap.size, 0, none⟩ 1 1 [.int .u8 z] rfl rfl (cell_one_new _ _ _) (fun x hx => by simp at hx; subst hx; rfl) (by unfold maxLen; omega) (by omega) (by simp; omega) ?_; intro v' w3 hown3 hgrow3 hnil3)
        have hR3 : Rd w0 B b a len cap (q + 1) w3 := hR2.upto (grow_below (Below.refl W.heap.size w2) hown2 hgrow3 hz2') hlt (by have := hR2.base_le; omega)
        have hz3 : W.heap.size ≤ w3.heap.size := by have := hgrow3.size; simp at this; omega
        clear hgrow3 hnil3
        go_roundw
        case rel =>
          refine ⟨k - 1, q + 1, xs ++ [z], ?_, by simp; omega, by omega, ?_, hR3, hz3⟩
          · have : ((k - 1 : Nat) : Int) = (k : Int) - 1 := by omega
            rw [this]
          · rw [List.map_append, List.length_append]; exact hown3
        case measure => simp [intOf]; omega
    · have hk0 : ¬ (0 : Int) < (k : Int) := by omega
      have hcv := conv_ints hown rfl
      go_wp2_with fail
      go_ret
      exact ⟨_, rfl, by rw [strOfNums_size]; omega, q, by omega, hR⟩

set_option maxHeartbeats 1000000 in
theorem drawQuotePut_any (W : World) (a : Option Addr) (len cap : Nat) (h : CodeIn W a len cap) :
    Calls Try.prog 11 #[.slice a len cap] W fun e w' => (∃ s, e = .returned (.string s) ∧ s.size ≤ 7) ∧ Below W.heap.size W w' := by
  go_enter Try.func11, Try.ntmps11
  go_wp2_with fail
  refine (l1Open_any W a len cap h).mono ?_
  rintro e w1 ⟨len', rfl, hR⟩
  go_wp2_with fail
  refine (l14Bytes_any hR (by omega)).mono ?_
  rintro e w2 ⟨s, p', rfl, hs, hp, hR2⟩
  go_wp2_with fail
  go_ret
  exact ⟨⟨s, rfl, hs⟩, hR2.1⟩

/-- what DrawQuoteGet puts in -/
def drawnPieces : List ByteArray := [⟨#[92]⟩, ⟨#[34]⟩, ⟨#[92, 120, 52]⟩, ⟨#[92, 113]⟩, ⟨#[128]⟩, ⟨#[]⟩]
theorem drawnPieces_size : ∀ s ∈ drawnPieces, s.size ≤ 3 := by decide +kernel
theorem extract_head_size (t : ByteArray) (c : Nat) (h : c ≤ t.size) : (t.extract 0 c).size = c := by
  rw [← Qm.len_eq]; simp [ByteArray.data_extract]
  show min c t.size = c
  omega

set_option maxHeartbeats 2000000 in
theorem drawQuoteGet_any (W : World) (a : Option Addr) (len cap : Nat) (h : CodeIn W a len cap) :
    Calls Try.prog 12 #[.slice a len cap] W fun e w' => (∃ s, e = .returned (.string s) ∧ s.size ≤ 1000) ∧ Below W.heap.size W w' := by
  go_enter Try.func12, Try.ntmps12
  go_wp2_with fail
  refine (l1Open_any W a len cap h).mono ?_
  rintro e w1 ⟨len', rfl, hR⟩
  go_wp2_with fail
  refine (l14Bytes_any hR (by omega)).mono ?_
  rintro e w2 ⟨s0, p', rfl, hs0, hp, hR2⟩
  go_wp2_with fail
  refine (sQuotePut_any _ _ (by omega)).mono ?_
  rintro e w3 ⟨rfl, hb3⟩
  have hR3 := hR2.below hb3
  have hsz : (⟨(Qm.quote s0.data.toList).toArray⟩ : ByteArray).size ≤ 30 := by
    rw [arr_size]; unfold Qm.quote
    have := Qm.flat_length s0.data.toList
    rw [Qm.len_eq] at this
    rw [List.length_cons, List.length_append]; simp only [List.length_singleton]; omega
  generalize (⟨(Qm.quote s0.data.toList).toArray⟩ : ByteArray) = s at *
  clear hR hR2 hb3
  go_wp2_with fail
  refine (pick_any 4 hR3 (by omega) (by omega) (by omega)).mono ?_
  rintro e w4 ⟨⟨n, rfl, n0, n1⟩, s4⟩
  have hR4 := hR3.step s4
  clear hR3 s4
  by_cases c0 : n = 0
  · subst c0
    go_wp2_with fail
    refine (pick_any _ hR4 (by omega) (by omega) (by omega)).mono ?_
    rintro e w5 ⟨⟨k, rfl, k0, k1⟩, s5⟩
    have hR5 := hR4.step s5
    clear hR4 s5
    obtain ⟨k, rfl⟩ := Int.eq_ofNat_of_zero_le k0
    have k2 : (k : Int) ≤ s.size := by omega
    have k3 : k ≤ s.size := by omega
    have hx1 := extract_head_size s k k3
    have hx2 := extract_end_size s k
    go_wp2_with fail
    have hbl := hR5.lt
    have hR6 := hR5.below (((Below.refl w5.heap.size w5).alloc (Nat.le_refl _) (.cells #[.string ⟨#[92]⟩, .string ⟨#[34]⟩, .string ⟨#[92, 120, 52]⟩, .string ⟨#[92, 113]⟩, .string ⟨#[128]⟩, .string ⟨#[]⟩] 9)).drew)
    have hcells : ∀ i, i < 6 → (w5.alloc (.cells #[.string ⟨#[92]⟩, .string ⟨#[34]⟩, .string ⟨#[92, 120, 52]⟩, .string ⟨#[92, 113]⟩, .string ⟨#[128]⟩, .string ⟨#[]⟩] 9)).drew.cell? ⟨w5.heap.size, i, none⟩ = some (.string (drawnPieces.getD i default)) := by
      intro i hi
      have : i = 0 ∨ i = 1 ∨ i = 2 ∨ i = 3 ∨ i = 4 ∨ i = 5 := by omega
      rcases this with rfl | rfl | rfl | rfl | rfl | rfl
      all_goals simp [drawnPieces]
    have HB5 : Below W.heap.size W w5.drew := hR5.1.drew
    have HB6 := hR6.1
    have hp6 : p' + 1 + 1 ≤ 100000 := by omega
    have hne : ¬ w5.heap.size = W.heap.size := by omega
    clear hR5
    go_region_held3 (fun w' => Below W.heap.size W w') (first | exact HB5 | exact HB6 | exact (hR6.step s6).1) ((go_at_call 26; refine (of_any hR6 hp6 w5.heap.size 6 drawnPieces hne rfl (by omega) (by omega) hcells).mono ?_; rintro e w6 ⟨⟨v, rfl, hv⟩, s6⟩; have hvs := drawnPieces_size v hv; clear hv; have g1 : ¬ 9223372036854775807 < k + v.size := (by omega); have g2 : ¬ 9223372036854775807 < k + v.size + (s.size - k) := (by omega)))
    all_goals
      have HB7 := (hR6.step s6).1
      clear hR6 hcells HB5 HB6
      go_wp2_with fail
      go_ret
      exact ⟨⟨_, rfl, by rw [ByteArray.size_append, ByteArray.size_append]; omega⟩, HB7⟩
  · by_cases c1 : n = 1
    · subst c1
      go_wp2_with fail
      refine (pick_any _ hR4 (by omega) (by omega) (by omega)).mono ?_
      rintro e w5 ⟨⟨k, rfl, k0, k1⟩, s5⟩
      have hR5 := hR4.step s5
      clear hR4 s5
      obtain ⟨k, rfl⟩ := Int.eq_ofNat_of_zero_le k0
      have k2 : (k : Int) ≤ s.size := by omega
      have k3 : k ≤ s.size := by omega
      have hx1 := extract_head_size s k k3
      go_wp2_with fail
      go_ret
      exact ⟨⟨_, rfl, by omega⟩, hR5.1⟩
    · have c0' : (n == 0) = false := by simp [c0]
      have c1' : (n == 1) = false := by simp [c1]
      go_wp2_with fail
      go_ret
      exact ⟨⟨_, rfl, by omega⟩, hR4.1⟩
end Go.Proofs.Ytkdilgmlabaehaa
