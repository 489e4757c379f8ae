/- Contracts for trees that are ok: a node is as its kind asks. -/
import Derived.Test.YtcnhlkkbfdchnaaOkD
import Derived.Test.YtcnhlkkbfdchnaaOkF
import Derived.Test.YtcnhlkkbfdchnaaDecX
import Derived.Laws.EntriesVeiled
namespace Go.Proofs.Ytcnhlkkbfdchnaa
open Go.RowKit
attribute [local go_sem] cell_alloc_is frozen_alloc_is
/-- block T is the table of kinds -/
def Tbl (w : World) (T b : Nat) : Prop := w.heap[T]? = some (.cells (tblV b) 48 (0, 0))
theorem Tbl.cell {w : World} {T b : Nat} (h : Tbl w T b) (j : Nat) (hj : j < 75) : w.cell? ⟨T, j, none⟩ = some ((tblV b)[j]'(by rw [tbl_size]; exact hj)) := by
  have hs : j < (tblV b).size := by rw [tbl_size]; exact hj
  unfold Tbl at h
  simp [World.cell?, h, hs]
theorem Tbl.grow {w w' : World} {T b : Nat} (h : Tbl w T b) (hb : Below w.heap.size w w') : Tbl w' T b := (hb.block T (Array.getElem?_eq_some_iff.1 h).1).trans h
theorem box5 (w : World) (k : Int) (t : ByteArray) (m e : Int) (v : Value) (ty : TypeId) : ∀ w', Below (w.heap.size + 1) (w.alloc (.cells #[.int .i64 k, .string t, .int .i64 m, .int .i64 e, v] ty)) w' →
    (w'.cell? ⟨w.heap.size, 0, none⟩ = some (.int .i64 k) ∧ w'.cell? ⟨w.heap.size, 1, none⟩ = some (.string t) ∧ w'.cell? ⟨w.heap.size, 2, none⟩ = some (.int .i64 m) ∧ w'.cell? ⟨w.heap.size, 3, none⟩ = some (.int .i64 e) ∧ w'.cell? ⟨w.heap.size, 4, none⟩ = some v) := by
  intro w' h
  refine ⟨?_, ?_, ?_, ?_, ?_⟩
  · exact (h.cell (p := ⟨w.heap.size, 0, none⟩) (Nat.lt_succ_self _)).trans (by simp)
  · exact (h.cell (p := ⟨w.heap.size, 1, none⟩) (Nat.lt_succ_self _)).trans (by simp)
  · exact (h.cell (p := ⟨w.heap.size, 2, none⟩) (Nat.lt_succ_self _)).trans (by simp)
  · exact (h.cell (p := ⟨w.heap.size, 3, none⟩) (Nat.lt_succ_self _)).trans (by simp)
  · exact (h.cell (p := ⟨w.heap.size, 4, none⟩) (Nat.lt_succ_self _)).trans (by simp)
set_option maxRecDepth 100000 in
set_option maxHeartbeats 2000000 in
theorem fit_0 (i lo hi : Nat) (hi1 : 1 ≤ i) (hi2 : i ≤ 24) (hlo : lo ≤ 8) (_hhi : hi ≤ 8) (h16 : i = 16 → 1 ≤ lo) (t : ByteArray) (m e : Int) (a : Option Addr) (c : Nat) (F : Fo) (T b : Nat) (w : World) (hM : IsMap w b bindsB)
    (t0 : w.cell? ⟨T, i * 3, none⟩ = some (.func (.func 42) #[] #[])) (t1 : w.cell? ⟨T, i * 3 + 1, none⟩ = some (.int .i64 lo)) (t2 : w.cell? ⟨T, i * 3 + 2, none⟩ = some (.int .i64 hi))
    (hin : F.In w a) (hl : F.len ≤ c) (hc : c ≤ maxLen) (_ht : t.size ≤ maxLen) :
    Calls Try.prog 26 #[.pointer (some ⟨T, 0, none⟩), nodeV i t m e a F.len c] w fun r w' => r = .returned (.bool (((decide (lo ≤ F.len) && decide (F.len ≤ hi)) && Om.textOf 0 t) && (Om.num i m e && Om.below i t F))) ∧ Below w.heap.size w w' := by
  have hcc := hc
  unfold maxLen at hcc
  have hTl := World.block_lt_of_cell? w _ t0
  have hml := (Array.getElem?_eq_some_iff.1 hM).1
  have g1 : ¬ (i : Int) < 1 := by omega
  have g2 : ¬ (24 : Int) < (i : Int) := by omega
  have g3 : (i : Int) < 25 := by omega
  have g4 : i < 25 := by omega
  have HK : Hid (∀ W, Below w.heap.size w W → ((i : Int) = 16 → 1 ≤ F.len) → Calls Try.prog 49 #[nodeV i t m e a F.len c] W fun r w' => r = .returned (.bool (Om.below i t F)) ∧ Below W.heap.size W w') := fun W h => kidsFit_any i t m e a c F W (hin.grow h) hl hc
  have HN : Hid (∀ W, Calls Try.prog 48 #[nodeV i t m e a F.len c] W fun r w' => r = .returned (.bool (Om.num i m e)) ∧ Below W.heap.size W w') := fun W => numFits_any i t m e a F.len c W
  have HT : Hid (Om.textOf 0 t = (t.toList == [])) := rfl
  clear hin
  go_enter Try.func26, Try.ntmps26
  go_wp2_with fail
  have hB0 := (Below.refl _ w).alloc (Nat.le_refl _) (.cells #[.int .i64 i, .string t, .int .i64 m, .int .i64 e, .slice a F.len c] 32)
  obtain ⟨b0, b1, b2, b3, b4⟩ := box5 w i t m e (.slice a F.len c) 32 _ (Below.refl _ _)
  have T0 := (hB0.cell (p := ⟨T, i * 3, none⟩) hTl).trans t0
  have T1 := (hB0.cell (p := ⟨T, i * 3 + 1, none⟩) hTl).trans t1
  have T2 := (hB0.cell (p := ⟨T, i * 3 + 2, none⟩) hTl).trans t2
  have HM0 : IsMap _ b bindsB := (hB0.block b hml).trans hM
  have hsz : w.heap.size < (w.alloc (.cells #[.int .i64 i, .string t, .int .i64 m, .int .i64 e, .slice a F.len c] 32)).heap.size := by simp
  generalize w.alloc (.cells #[.int .i64 i, .string t, .int .i64 m, .int .i64 e, .slice a F.len c] 32) = W0 at *
  have hTl0 : T < W0.heap.size := World.block_lt_of_cell? _ _ T0
  clear t0 t1 t2
  go_region
  have hD : Below W0.heap.size W0 (W0.alloc (.cells #[.func (.func 42) #[] #[], .int .i64 lo, .int .i64 hi] 46)).drew := ((Below.refl _ W0).alloc (Nat.le_refl _) _).drew
  have hB1 := hB0.trans (hD.mono hB0.size)
  have d0 := (hD.cell (p := ⟨w.heap.size, 0, none⟩) hsz).trans b0
  have d1 := (hD.cell (p := ⟨w.heap.size, 1, none⟩) hsz).trans b1
  have d2 := (hD.cell (p := ⟨w.heap.size, 2, none⟩) hsz).trans b2
  have d3 := (hD.cell (p := ⟨w.heap.size, 3, none⟩) hsz).trans b3
  have d4 := (hD.cell (p := ⟨w.heap.size, 4, none⟩) hsz).trans b4
  have HM1 : IsMap _ b bindsB := HM0.grown hD
  have e0 : (W0.alloc (.cells #[.func (.func 42) #[] #[], .int .i64 lo, .int .i64 hi] 46)).drew.cell? ⟨W0.heap.size, 0, none⟩ = some (.func (.func 42) #[] #[]) := by simp
  have e1 : (W0.alloc (.cells #[.func (.func 42) #[] #[], .int .i64 lo, .int .i64 hi] 46)).drew.cell? ⟨W0.heap.size, 1, none⟩ = some (.int .i64 lo) := by simp
  have e2 : (W0.alloc (.cells #[.func (.func 42) #[] #[], .int .i64 lo, .int .i64 hi] 46)).drew.cell? ⟨W0.heap.size, 2, none⟩ = some (.int .i64 hi) := by simp
  generalize (W0.alloc (.cells #[.func (.func 42) #[] #[], .int .i64 lo, .int .i64 hi] 46)).drew = W1 at *
  clear hD T0 T1 T2 b0 b1 b2 b3 b4 hB0 HM0
  by_cases q1 : lo ≤ F.len
  · have q1' : ¬ (F.len : Int) < (lo : Int) := by omega
    by_cases q2 : F.len ≤ hi
    · have q2' : ¬ (hi : Int) < (F.len : Int) := by omega
      have HR : Hid ((((decide (lo ≤ F.len) && decide (F.len ≤ hi)) && Om.textOf 0 t) && (Om.num i m e && Om.below i t F)) = ((t.toList == []) && (Om.num i m e && Om.below i t F))) := by unfold Hid; rw [HT.out]; simp [q1, q2]
      go_wp2_with fail
      refine (noText_any t _).mono ?_
      rintro r w' ⟨rfl, hw⟩
      subst w'
      generalize htx : (t.toList == []) = tx at *
      have HX : Hid ((t.toList == []) = tx) := htx
      clear htx
      cases tx
      · go_wp2_with fail
        go_ret
        exact ⟨lret_bool (by first | rfl | (rw [HR.out]; done) | (rw [HR.out]; rfl)), hB1⟩
      · go_wp2_with fail
        refine (HN.out _).mono ?_
        rintro r w2 ⟨rfl, hb2⟩
        have f0 := (hb2.cell (p := ⟨w.heap.size, 0, none⟩) (World.block_lt_of_cell? _ _ d0)).trans d0
        have f1 := (hb2.cell (p := ⟨w.heap.size, 1, none⟩) (World.block_lt_of_cell? _ _ d1)).trans d1
        have f2 := (hb2.cell (p := ⟨w.heap.size, 2, none⟩) (World.block_lt_of_cell? _ _ d2)).trans d2
        have f3 := (hb2.cell (p := ⟨w.heap.size, 3, none⟩) (World.block_lt_of_cell? _ _ d3)).trans d3
        have f4 := (hb2.cell (p := ⟨w.heap.size, 4, none⟩) (World.block_lt_of_cell? _ _ d4)).trans d4
        have hB2 := hB1.trans (hb2.mono hB1.size)
        clear d0 d1 d2 d3 d4 e0 e1 e2 hb2 hB1 HM1
        generalize hnn : Om.num i m e = nn
        have HN2 : Hid (Om.num i m e = nn) := hnn
        clear hnn
        cases nn
        · go_wp2_with fail
          go_ret
          exact ⟨lret_bool (by first | rfl | (rw [HR.out, HN2.out]; rfl)), hB2⟩
        · go_wp2_with fail
          refine (HK.out _ hB2 (fun h => by have := h16 (by omega); omega)).mono ?_
          rintro r w3 ⟨rfl, hb3⟩
          have hB3 := hB2.trans (hb3.mono hB2.size)
          generalize hbb : Om.below i t F = bb
          have HB2 : Hid (Om.below i t F = bb) := hbb
          clear hbb
          go_wp2_with fail
          go_ret
          exact ⟨lret_bool (by first | rfl | (rw [HR.out, HN2.out, HB2.out]; rfl)), hB3⟩
    · have q2' : (hi : Int) < (F.len : Int) := by omega
      have HR : Hid ((((decide (lo ≤ F.len) && decide (F.len ≤ hi)) && Om.textOf 0 t) && (Om.num i m e && Om.below i t F)) = false) := by unfold Hid; simp [q2]
      go_wp2_with fail
      go_ret
      exact ⟨lret_bool (by first | rfl | (rw [HR.out]; done) | (rw [HR.out]; rfl)), hB1⟩
  · have q1' : (F.len : Int) < (lo : Int) := by omega
    have HR : Hid ((((decide (lo ≤ F.len) && decide (F.len ≤ hi)) && Om.textOf 0 t) && (Om.num i m e && Om.below i t F)) = false) := by unfold Hid; simp [q1]
    go_wp2_with fail
    go_ret
    exact ⟨lret_bool (by first | rfl | (rw [HR.out]; done) | (rw [HR.out]; rfl)), hB1⟩
set_option maxRecDepth 100000 in
set_option maxHeartbeats 2000000 in
theorem fit_1 (i lo hi : Nat) (hi1 : 1 ≤ i) (hi2 : i ≤ 24) (hlo : lo ≤ 8) (_hhi : hi ≤ 8) (h16 : i = 16 → 1 ≤ lo) (t : ByteArray) (m e : Int) (a : Option Addr) (c : Nat) (F : Fo) (T b : Nat) (w : World) (hM : IsMap w b bindsB)
    (t0 : w.cell? ⟨T, i * 3, none⟩ = some (.func (.func 43) #[] #[])) (t1 : w.cell? ⟨T, i * 3 + 1, none⟩ = some (.int .i64 lo)) (t2 : w.cell? ⟨T, i * 3 + 2, none⟩ = some (.int .i64 hi))
    (hin : F.In w a) (hl : F.len ≤ c) (hc : c ≤ maxLen) (_ht : t.size ≤ maxLen) :
    Calls Try.prog 26 #[.pointer (some ⟨T, 0, none⟩), nodeV i t m e a F.len c] w fun r w' => r = .returned (.bool (((decide (lo ≤ F.len) && decide (F.len ≤ hi)) && Om.textOf 1 t) && (Om.num i m e && Om.below i t F))) ∧ Below w.heap.size w w' := by
  have hcc := hc
  unfold maxLen at hcc
  have hTl := World.block_lt_of_cell? w _ t0
  have hml := (Array.getElem?_eq_some_iff.1 hM).1
  have g1 : ¬ (i : Int) < 1 := by omega
  have g2 : ¬ (24 : Int) < (i : Int) := by omega
  have g3 : (i : Int) < 25 := by omega
  have g4 : i < 25 := by omega
  have HK : Hid (∀ W, Below w.heap.size w W → ((i : Int) = 16 → 1 ≤ F.len) → Calls Try.prog 49 #[nodeV i t m e a F.len c] W fun r w' => r = .returned (.bool (Om.below i t F)) ∧ Below W.heap.size W w') := fun W h => kidsFit_any i t m e a c F W (hin.grow h) hl hc
  have HN : Hid (∀ W, Calls Try.prog 48 #[nodeV i t m e a F.len c] W fun r w' => r = .returned (.bool (Om.num i m e)) ∧ Below W.heap.size W w') := fun W => numFits_any i t m e a F.len c W
  have HT : Hid (Om.textOf 1 t = (decide (t.size ≤ 1500))) := rfl
  clear hin
  go_enter Try.func26, Try.ntmps26
  go_wp2_with fail
  have hB0 := (Below.refl _ w).alloc (Nat.le_refl _) (.cells #[.int .i64 i, .string t, .int .i64 m, .int .i64 e, .slice a F.len c] 32)
  obtain ⟨b0, b1, b2, b3, b4⟩ := box5 w i t m e (.slice a F.len c) 32 _ (Below.refl _ _)
  have T0 := (hB0.cell (p := ⟨T, i * 3, none⟩) hTl).trans t0
  have T1 := (hB0.cell (p := ⟨T, i * 3 + 1, none⟩) hTl).trans t1
  have T2 := (hB0.cell (p := ⟨T, i * 3 + 2, none⟩) hTl).trans t2
  have HM0 : IsMap _ b bindsB := (hB0.block b hml).trans hM
  have hsz : w.heap.size < (w.alloc (.cells #[.int .i64 i, .string t, .int .i64 m, .int .i64 e, .slice a F.len c] 32)).heap.size := by simp
  generalize w.alloc (.cells #[.int .i64 i, .string t, .int .i64 m, .int .i64 e, .slice a F.len c] 32) = W0 at *
  have hTl0 : T < W0.heap.size := World.block_lt_of_cell? _ _ T0
  clear t0 t1 t2
  go_region
  have hD : Below W0.heap.size W0 (W0.alloc (.cells #[.func (.func 43) #[] #[], .int .i64 lo, .int .i64 hi] 46)).drew := ((Below.refl _ W0).alloc (Nat.le_refl _) _).drew
  have hB1 := hB0.trans (hD.mono hB0.size)
  have d0 := (hD.cell (p := ⟨w.heap.size, 0, none⟩) hsz).trans b0
  have d1 := (hD.cell (p := ⟨w.heap.size, 1, none⟩) hsz).trans b1
  have d2 := (hD.cell (p := ⟨w.heap.size, 2, none⟩) hsz).trans b2
  have d3 := (hD.cell (p := ⟨w.heap.size, 3, none⟩) hsz).trans b3
  have d4 := (hD.cell (p := ⟨w.heap.size, 4, none⟩) hsz).trans b4
  have HM1 : IsMap _ b bindsB := HM0.grown hD
  have e0 : (W0.alloc (.cells #[.func (.func 43) #[] #[], .int .i64 lo, .int .i64 hi] 46)).drew.cell? ⟨W0.heap.size, 0, none⟩ = some (.func (.func 43) #[] #[]) := by simp
  have e1 : (W0.alloc (.cells #[.func (.func 43) #[] #[], .int .i64 lo, .int .i64 hi] 46)).drew.cell? ⟨W0.heap.size, 1, none⟩ = some (.int .i64 lo) := by simp
  have e2 : (W0.alloc (.cells #[.func (.func 43) #[] #[], .int .i64 lo, .int .i64 hi] 46)).drew.cell? ⟨W0.heap.size, 2, none⟩ = some (.int .i64 hi) := by simp
  generalize (W0.alloc (.cells #[.func (.func 43) #[] #[], .int .i64 lo, .int .i64 hi] 46)).drew = W1 at *
  clear hD T0 T1 T2 b0 b1 b2 b3 b4 hB0 HM0
  by_cases q1 : lo ≤ F.len
  · have q1' : ¬ (F.len : Int) < (lo : Int) := by omega
    by_cases q2 : F.len ≤ hi
    · have q2' : ¬ (hi : Int) < (F.len : Int) := by omega
      have HR : Hid ((((decide (lo ≤ F.len) && decide (F.len ≤ hi)) && Om.textOf 1 t) && (Om.num i m e && Om.below i t F)) = ((decide (t.size ≤ 1500)) && (Om.num i m e && Om.below i t F))) := by unfold Hid; rw [HT.out]; simp [q1, q2]
      go_wp2_with fail
      refine (shortText_any t _ _ht).mono ?_
      rintro r w' ⟨rfl, hw⟩
      subst w'
      generalize htx : (decide (t.size ≤ 1500)) = tx at *
      have HX : Hid ((decide (t.size ≤ 1500)) = tx) := htx
      clear htx
      cases tx
      · go_wp2_with fail
        go_ret
        exact ⟨lret_bool (by first | rfl | (rw [HR.out]; done) | (rw [HR.out]; rfl)), hB1⟩
      · go_wp2_with fail
        refine (HN.out _).mono ?_
        rintro r w2 ⟨rfl, hb2⟩
        have f0 := (hb2.cell (p := ⟨w.heap.size, 0, none⟩) (World.block_lt_of_cell? _ _ d0)).trans d0
        have f1 := (hb2.cell (p := ⟨w.heap.size, 1, none⟩) (World.block_lt_of_cell? _ _ d1)).trans d1
        have f2 := (hb2.cell (p := ⟨w.heap.size, 2, none⟩) (World.block_lt_of_cell? _ _ d2)).trans d2
        have f3 := (hb2.cell (p := ⟨w.heap.size, 3, none⟩) (World.block_lt_of_cell? _ _ d3)).trans d3
        have f4 := (hb2.cell (p := ⟨w.heap.size, 4, none⟩) (World.block_lt_of_cell? _ _ d4)).trans d4
        have hB2 := hB1.trans (hb2.mono hB1.size)
        clear d0 d1 d2 d3 d4 e0 e1 e2 hb2 hB1 HM1
        generalize hnn : Om.num i m e = nn
        have HN2 : Hid (Om.num i m e = nn) := hnn
        clear hnn
        cases nn
        · go_wp2_with fail
          go_ret
          exact ⟨lret_bool (by first | rfl | (rw [HR.out, HN2.out]; rfl)), hB2⟩
        · go_wp2_with fail
          refine (HK.out _ hB2 (fun h => by have := h16 (by omega); omega)).mono ?_
          rintro r w3 ⟨rfl, hb3⟩
          have hB3 := hB2.trans (hb3.mono hB2.size)
          generalize hbb : Om.below i t F = bb
          have HB2 : Hid (Om.below i t F = bb) := hbb
          clear hbb
          go_wp2_with fail
          go_ret
          exact ⟨lret_bool (by first | rfl | (rw [HR.out, HN2.out, HB2.out]; rfl)), hB3⟩
    · have q2' : (hi : Int) < (F.len : Int) := by omega
      have HR : Hid ((((decide (lo ≤ F.len) && decide (F.len ≤ hi)) && Om.textOf 1 t) && (Om.num i m e && Om.below i t F)) = false) := by unfold Hid; simp [q2]
      go_wp2_with fail
      go_ret
      exact ⟨lret_bool (by first | rfl | (rw [HR.out]; done) | (rw [HR.out]; rfl)), hB1⟩
  · have q1' : (F.len : Int) < (lo : Int) := by omega
    have HR : Hid ((((decide (lo ≤ F.len) && decide (F.len ≤ hi)) && Om.textOf 1 t) && (Om.num i m e && Om.below i t F)) = false) := by unfold Hid; simp [q1]
    go_wp2_with fail
    go_ret
    exact ⟨lret_bool (by first | rfl | (rw [HR.out]; done) | (rw [HR.out]; rfl)), hB1⟩
set_option maxRecDepth 100000 in
set_option maxHeartbeats 2000000 in
theorem fit_2 (i lo hi : Nat) (hi1 : 1 ≤ i) (hi2 : i ≤ 24) (hlo : lo ≤ 8) (_hhi : hi ≤ 8) (h16 : i = 16 → 1 ≤ lo) (t : ByteArray) (m e : Int) (a : Option Addr) (c : Nat) (F : Fo) (T b : Nat) (w : World) (hM : IsMap w b bindsB)
    (t0 : w.cell? ⟨T, i * 3, none⟩ = some (.func (.func 44) #[] #[])) (t1 : w.cell? ⟨T, i * 3 + 1, none⟩ = some (.int .i64 lo)) (t2 : w.cell? ⟨T, i * 3 + 2, none⟩ = some (.int .i64 hi))
    (hin : F.In w a) (hl : F.len ≤ c) (hc : c ≤ maxLen) (_ht : t.size ≤ maxLen) :
    Calls Try.prog 26 #[.pointer (some ⟨T, 0, none⟩), nodeV i t m e a F.len c] w fun r w' => r = .returned (.bool (((decide (lo ≤ F.len) && decide (F.len ≤ hi)) && Om.textOf 2 t) && (Om.num i m e && Om.below i t F))) ∧ Below w.heap.size w w' := by
  have hcc := hc
  unfold maxLen at hcc
  have hTl := World.block_lt_of_cell? w _ t0
  have hml := (Array.getElem?_eq_some_iff.1 hM).1
  have g1 : ¬ (i : Int) < 1 := by omega
  have g2 : ¬ (24 : Int) < (i : Int) := by omega
  have g3 : (i : Int) < 25 := by omega
  have g4 : i < 25 := by omega
  have HK : Hid (∀ W, Below w.heap.size w W → ((i : Int) = 16 → 1 ≤ F.len) → Calls Try.prog 49 #[nodeV i t m e a F.len c] W fun r w' => r = .returned (.bool (Om.below i t F)) ∧ Below W.heap.size W w') := fun W h => kidsFit_any i t m e a c F W (hin.grow h) hl hc
  have HN : Hid (∀ W, Calls Try.prog 48 #[nodeV i t m e a F.len c] W fun r w' => r = .returned (.bool (Om.num i m e)) ∧ Below W.heap.size W w') := fun W => numFits_any i t m e a F.len c W
  have HT : Hid (Om.textOf 2 t = (Qm.name t)) := rfl
  clear hin
  go_enter Try.func26, Try.ntmps26
  go_wp2_with fail
  have hB0 := (Below.refl _ w).alloc (Nat.le_refl _) (.cells #[.int .i64 i, .string t, .int .i64 m, .int .i64 e, .slice a F.len c] 32)
  obtain ⟨b0, b1, b2, b3, b4⟩ := box5 w i t m e (.slice a F.len c) 32 _ (Below.refl _ _)
  have T0 := (hB0.cell (p := ⟨T, i * 3, none⟩) hTl).trans t0
  have T1 := (hB0.cell (p := ⟨T, i * 3 + 1, none⟩) hTl).trans t1
  have T2 := (hB0.cell (p := ⟨T, i * 3 + 2, none⟩) hTl).trans t2
  have HM0 : IsMap _ b bindsB := (hB0.block b hml).trans hM
  have hsz : w.heap.size < (w.alloc (.cells #[.int .i64 i, .string t, .int .i64 m, .int .i64 e, .slice a F.len c] 32)).heap.size := by simp
  generalize w.alloc (.cells #[.int .i64 i, .string t, .int .i64 m, .int .i64 e, .slice a F.len c] 32) = W0 at *
  have hTl0 : T < W0.heap.size := World.block_lt_of_cell? _ _ T0
  clear t0 t1 t2
  go_region
  have hD : Below W0.heap.size W0 (W0.alloc (.cells #[.func (.func 44) #[] #[], .int .i64 lo, .int .i64 hi] 46)).drew := ((Below.refl _ W0).alloc (Nat.le_refl _) _).drew
  have hB1 := hB0.trans (hD.mono hB0.size)
  have d0 := (hD.cell (p := ⟨w.heap.size, 0, none⟩) hsz).trans b0
  have d1 := (hD.cell (p := ⟨w.heap.size, 1, none⟩) hsz).trans b1
  have d2 := (hD.cell (p := ⟨w.heap.size, 2, none⟩) hsz).trans b2
  have d3 := (hD.cell (p := ⟨w.heap.size, 3, none⟩) hsz).trans b3
  have d4 := (hD.cell (p := ⟨w.heap.size, 4, none⟩) hsz).trans b4
  have HM1 : IsMap _ b bindsB := HM0.grown hD
  have e0 : (W0.alloc (.cells #[.func (.func 44) #[] #[], .int .i64 lo, .int .i64 hi] 46)).drew.cell? ⟨W0.heap.size, 0, none⟩ = some (.func (.func 44) #[] #[]) := by simp
  have e1 : (W0.alloc (.cells #[.func (.func 44) #[] #[], .int .i64 lo, .int .i64 hi] 46)).drew.cell? ⟨W0.heap.size, 1, none⟩ = some (.int .i64 lo) := by simp
  have e2 : (W0.alloc (.cells #[.func (.func 44) #[] #[], .int .i64 lo, .int .i64 hi] 46)).drew.cell? ⟨W0.heap.size, 2, none⟩ = some (.int .i64 hi) := by simp
  generalize (W0.alloc (.cells #[.func (.func 44) #[] #[], .int .i64 lo, .int .i64 hi] 46)).drew = W1 at *
  clear hD T0 T1 T2 b0 b1 b2 b3 b4 hB0 HM0
  by_cases q1 : lo ≤ F.len
  · have q1' : ¬ (F.len : Int) < (lo : Int) := by omega
    by_cases q2 : F.len ≤ hi
    · have q2' : ¬ (hi : Int) < (F.len : Int) := by omega
      have HR : Hid ((((decide (lo ≤ F.len) && decide (F.len ≤ hi)) && Om.textOf 2 t) && (Om.num i m e && Om.below i t F)) = ((Qm.name t) && (Om.num i m e && Om.below i t F))) := by unfold Hid; rw [HT.out]; simp [q1, q2]
      go_wp2_with fail
      refine (iNameOk_any t _ _ht).mono ?_
      rintro r w' ⟨rfl, hw⟩
      subst w'
      generalize htx : (Qm.name t) = tx at *
      have HX : Hid ((Qm.name t) = tx) := htx
      clear htx
      cases tx
      · go_wp2_with fail
        go_ret
        exact ⟨lret_bool (by first | rfl | (rw [HR.out]; done) | (rw [HR.out]; rfl)), hB1⟩
      · go_wp2_with fail
        refine (HN.out _).mono ?_
        rintro r w2 ⟨rfl, hb2⟩
        have f0 := (hb2.cell (p := ⟨w.heap.size, 0, none⟩) (World.block_lt_of_cell? _ _ d0)).trans d0
        have f1 := (hb2.cell (p := ⟨w.heap.size, 1, none⟩) (World.block_lt_of_cell? _ _ d1)).trans d1
        have f2 := (hb2.cell (p := ⟨w.heap.size, 2, none⟩) (World.block_lt_of_cell? _ _ d2)).trans d2
        have f3 := (hb2.cell (p := ⟨w.heap.size, 3, none⟩) (World.block_lt_of_cell? _ _ d3)).trans d3
        have f4 := (hb2.cell (p := ⟨w.heap.size, 4, none⟩) (World.block_lt_of_cell? _ _ d4)).trans d4
        have hB2 := hB1.trans (hb2.mono hB1.size)
        clear d0 d1 d2 d3 d4 e0 e1 e2 hb2 hB1 HM1
        generalize hnn : Om.num i m e = nn
        have HN2 : Hid (Om.num i m e = nn) := hnn
        clear hnn
        cases nn
        · go_wp2_with fail
          go_ret
          exact ⟨lret_bool (by first | rfl | (rw [HR.out, HN2.out]; rfl)), hB2⟩
        · go_wp2_with fail
          refine (HK.out _ hB2 (fun h => by have := h16 (by omega); omega)).mono ?_
          rintro r w3 ⟨rfl, hb3⟩
          have hB3 := hB2.trans (hb3.mono hB2.size)
          generalize hbb : Om.below i t F = bb
          have HB2 : Hid (Om.below i t F = bb) := hbb
          clear hbb
          go_wp2_with fail
          go_ret
          exact ⟨lret_bool (by first | rfl | (rw [HR.out, HN2.out, HB2.out]; rfl)), hB3⟩
    · have q2' : (hi : Int) < (F.len : Int) := by omega
      have HR : Hid ((((decide (lo ≤ F.len) && decide (F.len ≤ hi)) && Om.textOf 2 t) && (Om.num i m e && Om.below i t F)) = false) := by unfold Hid; simp [q2]
      go_wp2_with fail
      go_ret
      exact ⟨lret_bool (by first | rfl | (rw [HR.out]; done) | (rw [HR.out]; rfl)), hB1⟩
  · have q1' : (F.len : Int) < (lo : Int) := by omega
    have HR : Hid ((((decide (lo ≤ F.len) && decide (F.len ≤ hi)) && Om.textOf 2 t) && (Om.num i m e && Om.below i t F)) = false) := by unfold Hid; simp [q1]
    go_wp2_with fail
    go_ret
    exact ⟨lret_bool (by first | rfl | (rw [HR.out]; done) | (rw [HR.out]; rfl)), hB1⟩
set_option maxRecDepth 100000 in
set_option maxHeartbeats 2000000 in
theorem fit_3 (i lo hi : Nat) (hi1 : 1 ≤ i) (hi2 : i ≤ 24) (hlo : lo ≤ 8) (_hhi : hi ≤ 8) (h16 : i = 16 → 1 ≤ lo) (t : ByteArray) (m e : Int) (a : Option Addr) (c : Nat) (F : Fo) (T b : Nat) (w : World) (hM : IsMap w b bindsB)
    (t0 : w.cell? ⟨T, i * 3, none⟩ = some (.func (.func 45) #[.map (some b)] #[])) (t1 : w.cell? ⟨T, i * 3 + 1, none⟩ = some (.int .i64 lo)) (t2 : w.cell? ⟨T, i * 3 + 2, none⟩ = some (.int .i64 hi))
    (hin : F.In w a) (hl : F.len ≤ c) (hc : c ≤ maxLen) (_ht : t.size ≤ maxLen) :
    Calls Try.prog 26 #[.pointer (some ⟨T, 0, none⟩), nodeV i t m e a F.len c] w fun r w' => r = .returned (.bool (((decide (lo ≤ F.len) && decide (F.len ≤ hi)) && Om.textOf 3 t) && (Om.num i m e && Om.below i t F))) ∧ Below w.heap.size w w' := by
  have hcc := hc
  unfold maxLen at hcc
  have hTl := World.block_lt_of_cell? w _ t0
  have hml := (Array.getElem?_eq_some_iff.1 hM).1
  have g1 : ¬ (i : Int) < 1 := by omega
  have g2 : ¬ (24 : Int) < (i : Int) := by omega
  have g3 : (i : Int) < 25 := by omega
  have g4 : i < 25 := by omega
  have HK : Hid (∀ W, Below w.heap.size w W → ((i : Int) = 16 → 1 ≤ F.len) → Calls Try.prog 49 #[nodeV i t m e a F.len c] W fun r w' => r = .returned (.bool (Om.below i t F)) ∧ Below W.heap.size W w') := fun W h => kidsFit_any i t m e a c F W (hin.grow h) hl hc
  have HN : Hid (∀ W, Calls Try.prog 48 #[nodeV i t m e a F.len c] W fun r w' => r = .returned (.bool (Om.num i m e)) ∧ Below W.heap.size W w') := fun W => numFits_any i t m e a F.len c W
  have HT : Hid (Om.textOf 3 t = (Qm.has Om.signs t.toList)) := rfl
  clear hin
  go_enter Try.func26, Try.ntmps26
  go_wp2_with fail
  have hB0 := (Below.refl _ w).alloc (Nat.le_refl _) (.cells #[.int .i64 i, .string t, .int .i64 m, .int .i64 e, .slice a F.len c] 32)
  obtain ⟨b0, b1, b2, b3, b4⟩ := box5 w i t m e (.slice a F.len c) 32 _ (Below.refl _ _)
  have T0 := (hB0.cell (p := ⟨T, i * 3, none⟩) hTl).trans t0
  have T1 := (hB0.cell (p := ⟨T, i * 3 + 1, none⟩) hTl).trans t1
  have T2 := (hB0.cell (p := ⟨T, i * 3 + 2, none⟩) hTl).trans t2
  have HM0 : IsMap _ b bindsB := (hB0.block b hml).trans hM
  have hsz : w.heap.size < (w.alloc (.cells #[.int .i64 i, .string t, .int .i64 m, .int .i64 e, .slice a F.len c] 32)).heap.size := by simp
  generalize w.alloc (.cells #[.int .i64 i, .string t, .int .i64 m, .int .i64 e, .slice a F.len c] 32) = W0 at *
  have hTl0 : T < W0.heap.size := World.block_lt_of_cell? _ _ T0
  clear t0 t1 t2
  go_region
  have hD : Below W0.heap.size W0 (W0.alloc (.cells #[.func (.func 45) #[.map (some b)] #[], .int .i64 lo, .int .i64 hi] 46)).drew := ((Below.refl _ W0).alloc (Nat.le_refl _) _).drew
  have hB1 := hB0.trans (hD.mono hB0.size)
  have d0 := (hD.cell (p := ⟨w.heap.size, 0, none⟩) hsz).trans b0
  have d1 := (hD.cell (p := ⟨w.heap.size, 1, none⟩) hsz).trans b1
  have d2 := (hD.cell (p := ⟨w.heap.size, 2, none⟩) hsz).trans b2
  have d3 := (hD.cell (p := ⟨w.heap.size, 3, none⟩) hsz).trans b3
  have d4 := (hD.cell (p := ⟨w.heap.size, 4, none⟩) hsz).trans b4
  have HM1 : IsMap _ b bindsB := HM0.grown hD
  have e0 : (W0.alloc (.cells #[.func (.func 45) #[.map (some b)] #[], .int .i64 lo, .int .i64 hi] 46)).drew.cell? ⟨W0.heap.size, 0, none⟩ = some (.func (.func 45) #[.map (some b)] #[]) := by simp
  have e1 : (W0.alloc (.cells #[.func (.func 45) #[.map (some b)] #[], .int .i64 lo, .int .i64 hi] 46)).drew.cell? ⟨W0.heap.size, 1, none⟩ = some (.int .i64 lo) := by simp
  have e2 : (W0.alloc (.cells #[.func (.func 45) #[.map (some b)] #[], .int .i64 lo, .int .i64 hi] 46)).drew.cell? ⟨W0.heap.size, 2, none⟩ = some (.int .i64 hi) := by simp
  generalize (W0.alloc (.cells #[.func (.func 45) #[.map (some b)] #[], .int .i64 lo, .int .i64 hi] 46)).drew = W1 at *
  clear hD T0 T1 T2 b0 b1 b2 b3 b4 hB0 HM0
  by_cases q1 : lo ≤ F.len
  · have q1' : ¬ (F.len : Int) < (lo : Int) := by omega
    by_cases q2 : F.len ≤ hi
    · have q2' : ¬ (hi : Int) < (F.len : Int) := by omega
      have HR : Hid ((((decide (lo ≤ F.len) && decide (F.len ≤ hi)) && Om.textOf 3 t) && (Om.num i m e && Om.below i t F)) = ((Qm.has Om.signs t.toList) && (Om.num i m e && Om.below i t F))) := by unfold Hid; rw [HT.out]; simp [q1, q2]
      go_wp2_with fail
      refine (has_any b t _ HM1).mono ?_
      rintro r w' ⟨rfl, hw⟩
      subst w'
      generalize htx : (Qm.has Om.signs t.toList) = tx at *
      have HX : Hid ((Qm.has Om.signs t.toList) = tx) := htx
      clear htx
      cases tx
      · go_wp2_with fail
        go_ret
        exact ⟨lret_bool (by first | rfl | (rw [HR.out]; done) | (rw [HR.out]; rfl)), hB1⟩
      · go_wp2_with fail
        refine (HN.out _).mono ?_
        rintro r w2 ⟨rfl, hb2⟩
        have f0 := (hb2.cell (p := ⟨w.heap.size, 0, none⟩) (World.block_lt_of_cell? _ _ d0)).trans d0
        have f1 := (hb2.cell (p := ⟨w.heap.size, 1, none⟩) (World.block_lt_of_cell? _ _ d1)).trans d1
        have f2 := (hb2.cell (p := ⟨w.heap.size, 2, none⟩) (World.block_lt_of_cell? _ _ d2)).trans d2
        have f3 := (hb2.cell (p := ⟨w.heap.size, 3, none⟩) (World.block_lt_of_cell? _ _ d3)).trans d3
        have f4 := (hb2.cell (p := ⟨w.heap.size, 4, none⟩) (World.block_lt_of_cell? _ _ d4)).trans d4
        have hB2 := hB1.trans (hb2.mono hB1.size)
        clear d0 d1 d2 d3 d4 e0 e1 e2 hb2 hB1 HM1
        generalize hnn : Om.num i m e = nn
        have HN2 : Hid (Om.num i m e = nn) := hnn
        clear hnn
        cases nn
        · go_wp2_with fail
          go_ret
          exact ⟨lret_bool (by first | rfl | (rw [HR.out, HN2.out]; rfl)), hB2⟩
        · go_wp2_with fail
          refine (HK.out _ hB2 (fun h => by have := h16 (by omega); omega)).mono ?_
          rintro r w3 ⟨rfl, hb3⟩
          have hB3 := hB2.trans (hb3.mono hB2.size)
          generalize hbb : Om.below i t F = bb
          have HB2 : Hid (Om.below i t F = bb) := hbb
          clear hbb
          go_wp2_with fail
          go_ret
          exact ⟨lret_bool (by first | rfl | (rw [HR.out, HN2.out, HB2.out]; rfl)), hB3⟩
    · have q2' : (hi : Int) < (F.len : Int) := by omega
      have HR : Hid ((((decide (lo ≤ F.len) && decide (F.len ≤ hi)) && Om.textOf 3 t) && (Om.num i m e && Om.below i t F)) = false) := by unfold Hid; simp [q2]
      go_wp2_with fail
      go_ret
      exact ⟨lret_bool (by first | rfl | (rw [HR.out]; done) | (rw [HR.out]; rfl)), hB1⟩
  · have q1' : (F.len : Int) < (lo : Int) := by omega
    have HR : Hid ((((decide (lo ≤ F.len) && decide (F.len ≤ hi)) && Om.textOf 3 t) && (Om.num i m e && Om.below i t F)) = false) := by unfold Hid; simp [q1]
    go_wp2_with fail
    go_ret
    exact ⟨lret_bool (by first | rfl | (rw [HR.out]; done) | (rw [HR.out]; rfl)), hB1⟩
set_option maxRecDepth 100000 in
set_option maxHeartbeats 2000000 in
theorem fit_4 (i lo hi : Nat) (hi1 : 1 ≤ i) (hi2 : i ≤ 24) (hlo : lo ≤ 8) (_hhi : hi ≤ 8) (h16 : i = 16 → 1 ≤ lo) (t : ByteArray) (m e : Int) (a : Option Addr) (c : Nat) (F : Fo) (T b : Nat) (w : World) (hM : IsMap w b bindsB)
    (t0 : w.cell? ⟨T, i * 3, none⟩ = some (.func (.func 46) #[] #[])) (t1 : w.cell? ⟨T, i * 3 + 1, none⟩ = some (.int .i64 lo)) (t2 : w.cell? ⟨T, i * 3 + 2, none⟩ = some (.int .i64 hi))
    (hin : F.In w a) (hl : F.len ≤ c) (hc : c ≤ maxLen) (_ht : t.size ≤ maxLen) :
    Calls Try.prog 26 #[.pointer (some ⟨T, 0, none⟩), nodeV i t m e a F.len c] w fun r w' => r = .returned (.bool (((decide (lo ≤ F.len) && decide (F.len ≤ hi)) && Om.textOf 4 t) && (Om.num i m e && Om.below i t F))) ∧ Below w.heap.size w w' := by
  have hcc := hc
  unfold maxLen at hcc
  have hTl := World.block_lt_of_cell? w _ t0
  have hml := (Array.getElem?_eq_some_iff.1 hM).1
  have g1 : ¬ (i : Int) < 1 := by omega
  have g2 : ¬ (24 : Int) < (i : Int) := by omega
  have g3 : (i : Int) < 25 := by omega
  have g4 : i < 25 := by omega
  have HK : Hid (∀ W, Below w.heap.size w W → ((i : Int) = 16 → 1 ≤ F.len) → Calls Try.prog 49 #[nodeV i t m e a F.len c] W fun r w' => r = .returned (.bool (Om.below i t F)) ∧ Below W.heap.size W w') := fun W h => kidsFit_any i t m e a c F W (hin.grow h) hl hc
  have HN : Hid (∀ W, Calls Try.prog 48 #[nodeV i t m e a F.len c] W fun r w' => r = .returned (.bool (Om.num i m e)) ∧ Below W.heap.size W w') := fun W => numFits_any i t m e a F.len c W
  have HT : Hid (Om.textOf 4 t = (decide (0 < Om.std t.toList))) := rfl
  clear hin
  go_enter Try.func26, Try.ntmps26
  go_wp2_with fail
  have hB0 := (Below.refl _ w).alloc (Nat.le_refl _) (.cells #[.int .i64 i, .string t, .int .i64 m, .int .i64 e, .slice a F.len c] 32)
  obtain ⟨b0, b1, b2, b3, b4⟩ := box5 w i t m e (.slice a F.len c) 32 _ (Below.refl _ _)
  have T0 := (hB0.cell (p := ⟨T, i * 3, none⟩) hTl).trans t0
  have T1 := (hB0.cell (p := ⟨T, i * 3 + 1, none⟩) hTl).trans t1
  have T2 := (hB0.cell (p := ⟨T, i * 3 + 2, none⟩) hTl).trans t2
  have HM0 : IsMap _ b bindsB := (hB0.block b hml).trans hM
  have hsz : w.heap.size < (w.alloc (.cells #[.int .i64 i, .string t, .int .i64 m, .int .i64 e, .slice a F.len c] 32)).heap.size := by simp
  generalize w.alloc (.cells #[.int .i64 i, .string t, .int .i64 m, .int .i64 e, .slice a F.len c] 32) = W0 at *
  have hTl0 : T < W0.heap.size := World.block_lt_of_cell? _ _ T0
  clear t0 t1 t2
  go_region
  have hD : Below W0.heap.size W0 (W0.alloc (.cells #[.func (.func 46) #[] #[], .int .i64 lo, .int .i64 hi] 46)).drew := ((Below.refl _ W0).alloc (Nat.le_refl _) _).drew
  have hB1 := hB0.trans (hD.mono hB0.size)
  have d0 := (hD.cell (p := ⟨w.heap.size, 0, none⟩) hsz).trans b0
  have d1 := (hD.cell (p := ⟨w.heap.size, 1, none⟩) hsz).trans b1
  have d2 := (hD.cell (p := ⟨w.heap.size, 2, none⟩) hsz).trans b2
  have d3 := (hD.cell (p := ⟨w.heap.size, 3, none⟩) hsz).trans b3
  have d4 := (hD.cell (p := ⟨w.heap.size, 4, none⟩) hsz).trans b4
  have HM1 : IsMap _ b bindsB := HM0.grown hD
  have e0 : (W0.alloc (.cells #[.func (.func 46) #[] #[], .int .i64 lo, .int .i64 hi] 46)).drew.cell? ⟨W0.heap.size, 0, none⟩ = some (.func (.func 46) #[] #[]) := by simp
  have e1 : (W0.alloc (.cells #[.func (.func 46) #[] #[], .int .i64 lo, .int .i64 hi] 46)).drew.cell? ⟨W0.heap.size, 1, none⟩ = some (.int .i64 lo) := by simp
  have e2 : (W0.alloc (.cells #[.func (.func 46) #[] #[], .int .i64 lo, .int .i64 hi] 46)).drew.cell? ⟨W0.heap.size, 2, none⟩ = some (.int .i64 hi) := by simp
  generalize (W0.alloc (.cells #[.func (.func 46) #[] #[], .int .i64 lo, .int .i64 hi] 46)).drew = W1 at *
  clear hD T0 T1 T2 b0 b1 b2 b3 b4 hB0 HM0
  by_cases q1 : lo ≤ F.len
  · have q1' : ¬ (F.len : Int) < (lo : Int) := by omega
    by_cases q2 : F.len ≤ hi
    · have q2' : ¬ (hi : Int) < (F.len : Int) := by omega
      have HR : Hid ((((decide (lo ≤ F.len) && decide (F.len ≤ hi)) && Om.textOf 4 t) && (Om.num i m e && Om.below i t F)) = ((decide (0 < Om.std t.toList)) && (Om.num i m e && Om.below i t F))) := by unfold Hid; rw [HT.out]; simp [q1, q2]
      go_wp2_with fail
      refine (isStd_any t _).mono ?_
      rintro r w' ⟨rfl, hw⟩
      subst w'
      generalize htx : (decide (0 < Om.std t.toList)) = tx at *
      have HX : Hid ((decide (0 < Om.std t.toList)) = tx) := htx
      clear htx
      cases tx
      · go_wp2_with fail
        go_ret
        exact ⟨lret_bool (by first | rfl | (rw [HR.out]; done) | (rw [HR.out]; rfl)), hB1⟩
      · go_wp2_with fail
        refine (HN.out _).mono ?_
        rintro r w2 ⟨rfl, hb2⟩
        have f0 := (hb2.cell (p := ⟨w.heap.size, 0, none⟩) (World.block_lt_of_cell? _ _ d0)).trans d0
        have f1 := (hb2.cell (p := ⟨w.heap.size, 1, none⟩) (World.block_lt_of_cell? _ _ d1)).trans d1
        have f2 := (hb2.cell (p := ⟨w.heap.size, 2, none⟩) (World.block_lt_of_cell? _ _ d2)).trans d2
        have f3 := (hb2.cell (p := ⟨w.heap.size, 3, none⟩) (World.block_lt_of_cell? _ _ d3)).trans d3
        have f4 := (hb2.cell (p := ⟨w.heap.size, 4, none⟩) (World.block_lt_of_cell? _ _ d4)).trans d4
        have hB2 := hB1.trans (hb2.mono hB1.size)
        clear d0 d1 d2 d3 d4 e0 e1 e2 hb2 hB1 HM1
        generalize hnn : Om.num i m e = nn
        have HN2 : Hid (Om.num i m e = nn) := hnn
        clear hnn
        cases nn
        · go_wp2_with fail
          go_ret
          exact ⟨lret_bool (by first | rfl | (rw [HR.out, HN2.out]; rfl)), hB2⟩
        · go_wp2_with fail
          refine (HK.out _ hB2 (fun h => by have := h16 (by omega); omega)).mono ?_
          rintro r w3 ⟨rfl, hb3⟩
          have hB3 := hB2.trans (hb3.mono hB2.size)
          generalize hbb : Om.below i t F = bb
          have HB2 : Hid (Om.below i t F = bb) := hbb
          clear hbb
          go_wp2_with fail
          go_ret
          exact ⟨lret_bool (by first | rfl | (rw [HR.out, HN2.out, HB2.out]; rfl)), hB3⟩
    · have q2' : (hi : Int) < (F.len : Int) := by omega
      have HR : Hid ((((decide (lo ≤ F.len) && decide (F.len ≤ hi)) && Om.textOf 4 t) && (Om.num i m e && Om.below i t F)) = false) := by unfold Hid; simp [q2]
      go_wp2_with fail
      go_ret
      exact ⟨lret_bool (by first | rfl | (rw [HR.out]; done) | (rw [HR.out]; rfl)), hB1⟩
  · have q1' : (F.len : Int) < (lo : Int) := by omega
    have HR : Hid ((((decide (lo ≤ F.len) && decide (F.len ≤ hi)) && Om.textOf 4 t) && (Om.num i m e && Om.below i t F)) = false) := by unfold Hid; simp [q1]
    go_wp2_with fail
    go_ret
    exact ⟨lret_bool (by first | rfl | (rw [HR.out]; done) | (rw [HR.out]; rfl)), hB1⟩
end Go.Proofs.Ytcnhlkkbfdchnaa
