/- Contracts for trees that are ok: a node is as its kind asks, for every kind. -/
import Derived.Test.YtcnhlkkbfdchnaaOkG
namespace Go.Proofs.Ytcnhlkkbfdchnaa
open Go.RowKit
theorem fit_eq {k : Int} {lo hi q : Nat} (h : (1 ≤ k ∧ k ≤ 24) ∧ Om.low' k = lo ∧ Om.high' k = hi ∧ Om.sort k = q) (t : ByteArray) (m e : Int) (F : Fo) :
    Om.fit k t m e F = (((decide (lo ≤ F.len) && decide (F.len ≤ hi)) && Om.textOf q t) && (Om.num k m e && Om.below k t F)) := by
  obtain ⟨⟨h1, h2⟩, rfl, rfl, rfl⟩ := h
  unfold Om.fit
  simp [h1, h2]
set_option maxRecDepth 100000 in
set_option maxHeartbeats 1000000 in
theorem fit_in (i : Nat) (hi1 : 1 ≤ i) (hi2 : i ≤ 24) (t : ByteArray) (m e : Int) (a : Option Addr) (c : Nat) (F : Fo) (T b : Nat) (w : World) (hM : IsMap w b bindsB) (hT : Tbl w T b) (hin : F.In w a) (hl : F.len ≤ c) (hc : c ≤ maxLen) (ht : t.size ≤ maxLen) :
    Calls Try.prog 26 #[.pointer (some ⟨T, 0, none⟩), nodeV i t m e a F.len c] w fun r w' => r = .returned (.bool (Om.fit i t m e F)) ∧ Below w.heap.size w w' := by
  have cases : i = 1 ∨ i = 2 ∨ i = 3 ∨ i = 4 ∨ i = 5 ∨ i = 6 ∨ i = 7 ∨ i = 8 ∨ i = 9 ∨ i = 10 ∨ i = 11 ∨ i = 12 ∨ i = 13 ∨ i = 14 ∨ i = 15 ∨ i = 16 ∨ i = 17 ∨ i = 18 ∨ i = 19 ∨ i = 20 ∨ i = 21 ∨ i = 22 ∨ i = 23 ∨ i = 24 := by omega
  rcases cases with rfl | rfl | rfl | rfl | rfl | rfl | rfl | rfl | rfl | rfl | rfl | rfl | rfl | rfl | rfl | rfl | rfl | rfl | rfl | rfl | rfl | rfl | rfl | rfl
  · rw [fit_eq (lo := 0) (hi := 0) (q := 0) (by decide)]; exact fit_0 1 0 0 hi1 hi2 (by omega) (by omega) (fun h => by omega) t m e a c F T b w hM (hT.cell 3 (by omega)) (hT.cell 4 (by omega)) (hT.cell 5 (by omega)) hin hl hc ht
  · rw [fit_eq (lo := 0) (hi := 0) (q := 0) (by decide)]; exact fit_0 2 0 0 hi1 hi2 (by omega) (by omega) (fun h => by omega) t m e a c F T b w hM (hT.cell 6 (by omega)) (hT.cell 7 (by omega)) (hT.cell 8 (by omega)) hin hl hc ht
  · rw [fit_eq (lo := 0) (hi := 0) (q := 0) (by decide)]; exact fit_0 3 0 0 hi1 hi2 (by omega) (by omega) (fun h => by omega) t m e a c F T b w hM (hT.cell 9 (by omega)) (hT.cell 10 (by omega)) (hT.cell 11 (by omega)) hin hl hc ht
  · rw [fit_eq (lo := 0) (hi := 0) (q := 0) (by decide)]; exact fit_0 4 0 0 hi1 hi2 (by omega) (by omega) (fun h => by omega) t m e a c F T b w hM (hT.cell 12 (by omega)) (hT.cell 13 (by omega)) (hT.cell 14 (by omega)) hin hl hc ht
  · rw [fit_eq (lo := 0) (hi := 0) (q := 1) (by decide)]; exact fit_1 5 0 0 hi1 hi2 (by omega) (by omega) (fun h => by omega) t m e a c F T b w hM (hT.cell 15 (by omega)) (hT.cell 16 (by omega)) (hT.cell 17 (by omega)) hin hl hc ht
  · rw [fit_eq (lo := 0) (hi := 0) (q := 2) (by decide)]; exact fit_2 6 0 0 hi1 hi2 (by omega) (by omega) (fun h => by omega) t m e a c F T b w hM (hT.cell 18 (by omega)) (hT.cell 19 (by omega)) (hT.cell 20 (by omega)) hin hl hc ht
  · rw [fit_eq (lo := 0) (hi := 0) (q := 0) (by decide)]; exact fit_0 7 0 0 hi1 hi2 (by omega) (by omega) (fun h => by omega) t m e a c F T b w hM (hT.cell 21 (by omega)) (hT.cell 22 (by omega)) (hT.cell 23 (by omega)) hin hl hc ht
  · rw [fit_eq (lo := 0) (hi := 0) (q := 2) (by decide)]; exact fit_2 8 0 0 hi1 hi2 (by omega) (by omega) (fun h => by omega) t m e a c F T b w hM (hT.cell 24 (by omega)) (hT.cell 25 (by omega)) (hT.cell 26 (by omega)) hin hl hc ht
  · rw [fit_eq (lo := 0) (hi := 0) (q := 2) (by decide)]; exact fit_2 9 0 0 hi1 hi2 (by omega) (by omega) (fun h => by omega) t m e a c F T b w hM (hT.cell 27 (by omega)) (hT.cell 28 (by omega)) (hT.cell 29 (by omega)) hin hl hc ht
  · rw [fit_eq (lo := 1) (hi := 1) (q := 0) (by decide)]; exact fit_0 10 1 1 hi1 hi2 (by omega) (by omega) (fun h => by omega) t m e a c F T b w hM (hT.cell 30 (by omega)) (hT.cell 31 (by omega)) (hT.cell 32 (by omega)) hin hl hc ht
  · rw [fit_eq (lo := 1) (hi := 1) (q := 0) (by decide)]; exact fit_0 11 1 1 hi1 hi2 (by omega) (by omega) (fun h => by omega) t m e a c F T b w hM (hT.cell 33 (by omega)) (hT.cell 34 (by omega)) (hT.cell 35 (by omega)) hin hl hc ht
  · rw [fit_eq (lo := 1) (hi := 1) (q := 0) (by decide)]; exact fit_0 12 1 1 hi1 hi2 (by omega) (by omega) (fun h => by omega) t m e a c F T b w hM (hT.cell 36 (by omega)) (hT.cell 37 (by omega)) (hT.cell 38 (by omega)) hin hl hc ht
  · rw [fit_eq (lo := 2) (hi := 2) (q := 3) (by decide)]; exact fit_3 13 2 2 hi1 hi2 (by omega) (by omega) (fun h => by omega) t m e a c F T b w hM (hT.cell 39 (by omega)) (hT.cell 40 (by omega)) (hT.cell 41 (by omega)) hin hl hc ht
  · rw [fit_eq (lo := 3) (hi := 3) (q := 0) (by decide)]; exact fit_0 14 3 3 hi1 hi2 (by omega) (by omega) (fun h => by omega) t m e a c F T b w hM (hT.cell 42 (by omega)) (hT.cell 43 (by omega)) (hT.cell 44 (by omega)) hin hl hc ht
  · rw [fit_eq (lo := 2) (hi := 2) (q := 2) (by decide)]; exact fit_2 15 2 2 hi1 hi2 (by omega) (by omega) (fun h => by omega) t m e a c F T b w hM (hT.cell 45 (by omega)) (hT.cell 46 (by omega)) (hT.cell 47 (by omega)) hin hl hc ht
  · rw [fit_eq (lo := 1) (hi := 8) (q := 0) (by decide)]; exact fit_0 16 1 8 hi1 hi2 (by omega) (by omega) (fun h => by omega) t m e a c F T b w hM (hT.cell 48 (by omega)) (hT.cell 49 (by omega)) (hT.cell 50 (by omega)) hin hl hc ht
  · rw [fit_eq (lo := 1) (hi := 8) (q := 0) (by decide)]; exact fit_0 17 1 8 hi1 hi2 (by omega) (by omega) (fun h => by omega) t m e a c F T b w hM (hT.cell 51 (by omega)) (hT.cell 52 (by omega)) (hT.cell 53 (by omega)) hin hl hc ht
  · rw [fit_eq (lo := 1) (hi := 1) (q := 2) (by decide)]; exact fit_2 18 1 1 hi1 hi2 (by omega) (by omega) (fun h => by omega) t m e a c F T b w hM (hT.cell 54 (by omega)) (hT.cell 55 (by omega)) (hT.cell 56 (by omega)) hin hl hc ht
  · rw [fit_eq (lo := 2) (hi := 2) (q := 0) (by decide)]; exact fit_0 19 2 2 hi1 hi2 (by omega) (by omega) (fun h => by omega) t m e a c F T b w hM (hT.cell 57 (by omega)) (hT.cell 58 (by omega)) (hT.cell 59 (by omega)) hin hl hc ht
  · rw [fit_eq (lo := 0) (hi := 8) (q := 0) (by decide)]; exact fit_0 20 0 8 hi1 hi2 (by omega) (by omega) (fun h => by omega) t m e a c F T b w hM (hT.cell 60 (by omega)) (hT.cell 61 (by omega)) (hT.cell 62 (by omega)) hin hl hc ht
  · rw [fit_eq (lo := 2) (hi := 2) (q := 2) (by decide)]; exact fit_2 21 2 2 hi1 hi2 (by omega) (by omega) (fun h => by omega) t m e a c F T b w hM (hT.cell 63 (by omega)) (hT.cell 64 (by omega)) (hT.cell 65 (by omega)) hin hl hc ht
  · rw [fit_eq (lo := 0) (hi := 8) (q := 0) (by decide)]; exact fit_0 22 0 8 hi1 hi2 (by omega) (by omega) (fun h => by omega) t m e a c F T b w hM (hT.cell 66 (by omega)) (hT.cell 67 (by omega)) (hT.cell 68 (by omega)) hin hl hc ht
  · rw [fit_eq (lo := 1) (hi := 1) (q := 2) (by decide)]; exact fit_2 23 1 1 hi1 hi2 (by omega) (by omega) (fun h => by omega) t m e a c F T b w hM (hT.cell 69 (by omega)) (hT.cell 70 (by omega)) (hT.cell 71 (by omega)) hin hl hc ht
  · rw [fit_eq (lo := 1) (hi := 3) (q := 4) (by decide)]; exact fit_4 24 1 3 hi1 hi2 (by omega) (by omega) (fun h => by omega) t m e a c F T b w hM (hT.cell 72 (by omega)) (hT.cell 73 (by omega)) (hT.cell 74 (by omega)) hin hl hc ht
set_option maxHeartbeats 1000000 in
theorem fit_out (k : Int) (hk : ¬ (1 ≤ k ∧ k ≤ 24)) (t : ByteArray) (m e : Int) (a : Option Addr) (c n : Nat) (p : Option Addr) (w : World) :
    Calls Try.prog 26 #[.pointer p, nodeV k t m e a n c] w fun r w' => r = .returned (.bool false) ∧ Below w.heap.size w w' := by
  by_cases h1 : k < 1
  · go_enter Try.func26, Try.ntmps26
    go_wp2_with fail
    go_ret
    exact ⟨rfl, (Below.refl _ w).alloc (Nat.le_refl _) _⟩
  · have h2 : 24 < k := by omega
    go_enter Try.func26, Try.ntmps26
    go_wp2_with fail
    go_ret
    exact ⟨rfl, (Below.refl _ w).alloc (Nat.le_refl _) _⟩
theorem fit_any (k : Int) (t : ByteArray) (m e : Int) (a : Option Addr) (c : Nat) (F : Fo) (T b : Nat) (w : World) (hM : IsMap w b bindsB) (hT : Tbl w T b) (hin : F.In w a) (hl : F.len ≤ c) (hc : c ≤ maxLen) (ht : t.size ≤ maxLen) :
    Calls Try.prog 26 #[.pointer (some ⟨T, 0, none⟩), nodeV k t m e a F.len c] w fun r w' => r = .returned (.bool (Om.fit k t m e F)) ∧ Below w.heap.size w w' := by
  by_cases hk : 1 ≤ k ∧ k ≤ 24
  · obtain ⟨i, rfl⟩ : ∃ i : Nat, k = i := ⟨k.toNat, by omega⟩
    exact fit_in i (by omega) (by omega) t m e a c F T b w hM hT hin hl hc ht
  · have h0 : Om.fit k t m e F = false := by
      unfold Om.fit
      have : (decide (1 ≤ k) && decide (k ≤ 24)) = false := by rw [← Bool.decide_and]; exact decide_eq_false hk
      rw [this]; rfl
    rw [h0]
    exact fit_out k hk t m e a c F.len _ w
end Go.Proofs.Ytcnhlkkbfdchnaa
